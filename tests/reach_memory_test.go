package tests

import (
	"slices"
	"testing"

	"loop.example/g00895/impl"
)

// walkThrough returns terms as the steps of a walk.
func walkThrough(terms [][]int64) impl.Walk {
	w := impl.Walk{}
	for _, nums := range terms {
		w.Steps = append(w.Steps, impl.Step{To: nums})
	}
	return w
}

// reachCalls are the functions of chapter 9. The second term is the one from which
// the walk v starts, and the number of steps is the fuel.
func reachCalls() []stepCall {
	return []stepCall{
		{"ReachOf", func(a stepArgs) impl.Walk { x, _ := impl.ReachOf(a.sys, a.t, a.fuel); return walkThrough(x) }},
		{"WalkTo", func(a stepArgs) impl.Walk { w, _ := impl.WalkTo(a.sys, a.t, a.v.From, a.fuel); return w }},
		{"JoinOf, the first", func(a stepArgs) impl.Walk { w, _, _ := impl.JoinOf(a.sys, a.t, a.v.From, a.fuel); return w }},
		{"JoinOf, the second", func(a stepArgs) impl.Walk { _, v, _ := impl.JoinOf(a.sys, a.t, a.v.From, a.fuel); return v }},
		{"JoinOf, both", func(a stepArgs) impl.Walk {
			w, v, _ := impl.JoinOf(a.sys, a.t, a.v.From, a.fuel)
			return walkThrough(slices.Concat(slicesOfWalk(w), slicesOfWalk(v)))
		}},
		{"JoinsIn", func(a stepArgs) impl.Walk { impl.JoinsIn(a.sys, a.t, a.v.From, a.fuel); return impl.Walk{} }},
		{"NormalsOf", func(a stepArgs) impl.Walk { return walkThrough(impl.NormalsOf(a.sys, a.t, a.fuel)) }},
		{"LongestOf", func(a stepArgs) impl.Walk { impl.LongestOf(a.sys, a.t, a.fuel); return impl.Walk{} }},
		{"FiniteIn", func(a stepArgs) impl.Walk { impl.FiniteIn(a.sys, a.t, a.fuel); return impl.Walk{} }},
	}
}

// reachSamples are arguments with second terms that are reached or joined, and
// arguments that are not valid.
func reachSamples() []stepArgs {
	found := stepSamples()
	for i := range found {
		found[i].fuel = int64(i % 5)
		if terms, _ := impl.ReachOf(found[i].sys, found[i].t, 4); len(terms) > 0 && i%4 > 0 {
			found[i].v = resting(terms[i*7%len(terms)])
		}
	}
	for _, nums := range append(someTerms(), start(), nested(10)) {
		for i, b := range append(endingBooks(), bookOf(), bookOf(swap()), bookOf(stay())) {
			x := stepArgs{sys: b.system(), t: nums, v: resting(nums), fuel: int64(i)}
			for _, step := range impl.StepsFrom(x.sys, nums) {
				x.v = resting(step.To)
			}
			found = append(found, x)
		}
	}
	return append(found, stepArgs{sys: sums(), t: start(), v: resting(start()), fuel: 21}, stepArgs{sys: sums(), t: start(), v: resting([]int64{0}), fuel: 3})
}

// The samples are of use only if many calls have a result.
func TestReachSamplesHaveResults(t *testing.T) {
	for _, c := range reachCalls() {
		count := 0
		for _, x := range reachSamples() {
			if !isZeroWalk(c.run(x)) {
				count++
			}
		}
		if hasNone := c.name == "JoinsIn" || c.name == "LongestOf" || c.name == "FiniteIn"; !hasNone && count < 80 {
			t.Error(c.name, count)
		}
	}
}

func TestReachArgumentsAreNotModified(t *testing.T) {
	checkStepArgumentsAreKept(t, reachCalls(), reachSamples())
}

func TestReachResultsAreNew(t *testing.T) {
	checkStepResultsAreNew(t, reachCalls(), reachSamples())
}

func TestReachedTermsAreApart(t *testing.T) {
	for _, c := range reachCalls() {
		for i, x := range reachSamples() {
			// Each check of a long list takes a while, and most lists are alike.
			if len(c.run(x).Steps) < 20 || i%10 == 0 {
				checkSlicesApart(t, c, x)
			}
		}
	}
}

// The list of terms is new too, with what is behind its length.
func TestListsOfReachedTermsAreNew(t *testing.T) {
	for i, x := range reachSamples() {
		terms, all := impl.ReachOf(x.sys, x.t, x.fuel)
		normals := impl.NormalsOf(x.sys, x.t, x.fuel)
		kept := [2]impl.Subst{cloneOf(substOf(terms...)), cloneOf(substOf(normals...))}
		overwriteSubst(impl.Subst{Terms: normals})
		if !equalTerms(terms, kept[0].Terms) {
			t.Fatalf("ReachOf and NormalsOf share memory: sample %d", i)
		}
		overwriteSubst(impl.Subst{Terms: terms})
		again, does := impl.ReachOf(x.sys, x.t, x.fuel)
		if !equalTerms(again, kept[0].Terms) || all != does || !equalTerms(impl.NormalsOf(x.sys, x.t, x.fuel), kept[1].Terms) {
			t.Fatalf("a list was kept: sample %d", i)
		}
	}
}

// The two terms and the sides of the rules are one slice and a part of it.
func TestReachOfOneSlice(t *testing.T) {
	for _, nums := range [][]int64{{1, 2}, {0, 2, 2}, nested(60)} {
		g := guardOf(nums)
		part := g.nums[len(nums)-1:]
		for _, rules := range [][]impl.Rule{{{L: part, R: part}}, {{L: g.nums, R: part}}, {{L: g.nums, R: g.nums}, {L: part, R: part}}} {
			for _, u := range [][]int64{g.nums, part} {
				x := stepArgs{sys: impl.System{Sig: abc(), Rules: rules}, t: g.nums, v: resting(u), fuel: 20}
				for _, c := range reachCalls() {
					want := cloneWalk(c.run(x))
					checkSlicesApart(t, c, x)
					overwriteWalk(c.run(x))
					if g.touched() || !equalWalks(c.run(x), want) {
						t.Fatal(c.name, nums, rules)
					}
				}
			}
		}
	}
}

// A result that was kept for the memory of an argument would be wrong for what
// that memory holds later.
func TestReachResultsFollowTheContents(t *testing.T) {
	sys, nums, u := sums(), []int64{0, 1, 2, 2}, []int64{1, 2}
	checkTerms(t, sys, nums, 20, [][]int64{{0, 1, 2, 2}, {1, 0, 2, 2}, {1, 2}}, true)
	checkReached(t, sys, nums, walkOf(nums, impl.Step{Rule: 1, To: []int64{1, 0, 2, 2}}, impl.Step{At: 1, To: u}), 2)
	checkLength(t, sys, nums, 20, 2)
	nums[3] = -1
	checkTerms(t, sys, nums, 20, [][]int64{{0, 1, 2, -1}, {1, 0, 2, -1}, {1, -1}}, true)
	checkNotReached(t, sys, nums, u, 20)
	checkNoJoin(t, sys, nums, u, 20)
	u[1] = -1
	checkReached(t, sys, nums, walkOf(nums, impl.Step{Rule: 1, To: []int64{1, 0, 2, -1}}, impl.Step{At: 1, To: u}), 2)
	if !impl.JoinsIn(sys, nums, u, 2) {
		t.Fatal("f0(f1(f2),x0) and f1(x0)")
	}
	copy(sys.Rules[0].L, []int64{0, -1, 2})
	checkTerms(t, sys, nums, 20, [][]int64{{0, 1, 2, -1}, {1, 0, 2, -1}}, true)
	checkNotReached(t, sys, nums, u, 20)
	checkLength(t, sys, nums, 20, 1)
	sys.Rules[1].R[0] = 2
	checkNoReach(t, sys, nums, u, 20)
	sys = sums()
	sys.Sig.Arity[2] = 1
	checkNoReach(t, sys, nums, []int64{-1}, 20)
}

func TestReachOfVeryLongSlices(t *testing.T) {
	checkNoReach(t, sums(), make([]int64, 100000), start(), 5)
	checkNoReach(t, sums(), slices.Repeat([]int64{-1}, 100000), nil, 5)
	checkNoReach(t, many(100000, []int64{2}, []int64{2}), []int64{2}, []int64{2}, 5)
}
