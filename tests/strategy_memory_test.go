package tests

import (
	"slices"
	"testing"

	"loop.example/g00895/impl"
)

// strategyCalls are the functions of chapter 8.
func strategyCalls() []stepCall {
	return []stepCall{
		{"PickBy", func(a stepArgs) impl.Walk { impl.PickBy(a.sys, a.t, a.strategy); return impl.Walk{} }},
		{"WalkBy", func(a stepArgs) impl.Walk { w, _ := impl.WalkBy(a.sys, a.t, a.strategy, a.fuel); return w }},
		{"NormalBy", func(a stepArgs) impl.Walk {
			x, _ := impl.NormalBy(a.sys, a.t, a.strategy, a.fuel)
			return resting(x)
		}},
		{"CountBy", func(a stepArgs) impl.Walk { impl.CountBy(a.sys, a.t, a.strategy, a.fuel); return impl.Walk{} }},
		{"RedexesIn", func(a stepArgs) impl.Walk { return resting(impl.RedexesIn(a.sys, a.t)) }},
		{"InmostIn", func(a stepArgs) impl.Walk { return resting(impl.InmostIn(a.sys, a.t)) }},
		{"OutmostIn", func(a stepArgs) impl.Walk { return resting(impl.OutmostIn(a.sys, a.t)) }},
	}
}

// strategySamples are arguments with every strategy and with walks of no steps,
// of steps that change nothing, and of many steps, and arguments that are not
// valid.
func strategySamples() []stepArgs {
	found := stepSamples()
	for i := range found {
		found[i].strategy, found[i].fuel = int64(i%4), int64(i%7)*10
	}
	for _, nums := range append(someTerms(), start(), nested(30)) {
		for _, sys := range []impl.System{sums(), systemOf(), bookOf(shrink(), merge()).system(), many(12, []int64{2}, []int64{2})} {
			for i, strategy := range strategies() {
				found = append(found, stepArgs{sys: sys, t: nums, strategy: strategy, fuel: int64(i) * 30})
			}
		}
	}
	return found
}

// The samples are of use only if many calls have a result.
func TestStrategySamplesHaveResults(t *testing.T) {
	for _, c := range strategyCalls() {
		count := 0
		for _, x := range strategySamples() {
			if !isZeroWalk(c.run(x)) {
				count++
			}
		}
		if hasNone := c.name == "PickBy" || c.name == "CountBy"; !hasNone && count < 80 {
			t.Error(c.name, count)
		}
	}
}

func TestStrategyArgumentsAreNotModified(t *testing.T) {
	checkStepArgumentsAreKept(t, strategyCalls(), strategySamples())
}

func TestStrategyResultsAreNew(t *testing.T) {
	checkStepResultsAreNew(t, strategyCalls(), strategySamples())
}

func TestTermsOfACourseAreApart(t *testing.T) {
	for _, c := range strategyCalls() {
		for _, x := range strategySamples() {
			checkSlicesApart(t, c, x)
		}
	}
}

// The sides of the rules are the term itself and a part of it.
func TestCoursesOfOneSlice(t *testing.T) {
	for _, nums := range [][]int64{{1, 2}, {0, 2, 2}, nested(60)} {
		g := guardOf(nums)
		part := g.nums[len(nums)-1:]
		for _, rules := range [][]impl.Rule{{{L: part, R: part}}, {{L: g.nums, R: part}}, {{L: g.nums, R: g.nums}, {L: part, R: part}}} {
			for _, strategy := range strategies() {
				x := stepArgs{sys: impl.System{Sig: abc(), Rules: rules}, t: g.nums, strategy: strategy, fuel: 60}
				for _, c := range strategyCalls() {
					want := cloneWalk(c.run(x))
					checkSlicesApart(t, c, x)
					overwriteWalk(c.run(x))
					if g.touched() || !equalWalks(c.run(x), want) {
						t.Fatal(c.name, nums, rules)
					}
				}
			}
		}
	}
}

// A result that was kept for the memory of an argument would be wrong for what
// that memory holds later.
func TestStrategyResultsFollowTheContents(t *testing.T) {
	sys, nums := sums(), start()
	checkLists(t, sys, nums, []int64{0, 3}, []int64{3}, []int64{0})
	checkPicks(t, sys, nums, [3]pick{{3, 0}, {0, 1}, {3, 0}})
	checkCourse(t, sys, nums, impl.StInmost, 60, ended(), true)
	nums[4] = -1
	checkLists(t, sys, nums, []int64{0}, []int64{0}, []int64{0})
	checkPicks(t, sys, nums, [3]pick{{0, 1}, {0, 1}, {0, 1}})
	checkCourse(t, sys, nums, impl.StInmost, 60, walkOf([]int64{0, 1, 2, 0, -1, 2}, impl.Step{Rule: 1, To: []int64{1, 0, 2, 0, -1, 2}}, impl.Step{At: 1, To: []int64{1, 0, -1, 2}}), true)
	copy(sys.Rules[0].L, []int64{0, -1, 2})
	checkLists(t, sys, nums, []int64{0, 3}, []int64{3}, []int64{0})
	checkPicks(t, sys, nums, [3]pick{{3, 0}, {0, 1}, {3, 0}})
	copy(sys.Rules[1].L, []int64{0, -2, -1})
	if got := impl.CountBy(sys, nums, impl.StInmost, 60); got != -1 || impl.SystemOk(sys) {
		t.Fatal("f0(x1,x0) and a variable", got)
	}
	checkNothing(t, sys, nums)
	copy(sys.Rules[1].L, []int64{0, 1, -1, -2})
	sys.Sig.Arity[2] = 1
	checkNothing(t, sys, nums)
}

func TestStrategiesOfVeryLongSlices(t *testing.T) {
	checkNothing(t, sums(), make([]int64, 100000))
	checkNothing(t, sums(), slices.Repeat([]int64{-1}, 100000))
	checkNothing(t, many(100000, []int64{2}, []int64{2}), []int64{2})
}
