package tests

import (
	"math"
	"slices"
	"testing"

	"loop.example/g00895/impl"
)

// A walkGuard is a walk with room behind each of its slices. It notices a write
// to any of them.
type walkGuard struct {
	w      impl.Walk
	from   guard
	tos    []guard
	before []impl.Step
}

func walkGuardOf(w impl.Walk) walkGuard {
	g := walkGuard{from: guardOf(w.From)}
	for _, x := range append(slices.Clone(w.Steps), ended().Steps...) {
		to := guardOf(x.To)
		g.tos = append(g.tos, to)
		g.before = append(g.before, impl.Step{At: x.At, Rule: x.Rule, To: to.nums})
	}
	whole := slices.Clip(slices.Clone(g.before))
	g.w = impl.Walk{From: g.from.nums, Steps: whole[:len(w.Steps)]}
	return g
}

func (g walkGuard) touched() bool {
	isOne := func(a, b impl.Step) bool { return a.At == b.At && a.Rule == b.Rule && isOneSlice(a.To, b.To) }
	return g.from.touched() || slices.ContainsFunc(g.tos, guard.touched) || !slices.EqualFunc(g.w.Steps[:len(g.before)], g.before, isOne)
}

// overwriteWalk changes all the memory that a result reaches.
func overwriteWalk(result impl.Walk) {
	overwrite(result.From)
	whole := result.Steps[:cap(result.Steps)]
	for i := range whole {
		overwrite(whole[i].To)
		whole[i] = impl.Step{At: -7777, Rule: -7777, To: []int64{-8888}}
	}
}

// slicesOfWalk lists the slices of numbers of a walk.
func slicesOfWalk(w impl.Walk) [][]int64 {
	found := [][]int64{w.From}
	for _, x := range w.Steps {
		found = append(found, x.To)
	}
	return found
}

// A stepCall is a function on the arguments that the tests vary. A slice of
// numbers that it returns is given as the first term of a walk, and steps as
// those of a walk.
type stepCall struct {
	name string
	run  func(a stepArgs) impl.Walk
}

// The arguments of a stepCall, valid or not.
type stepArgs struct {
	sys            impl.System
	t              []int64
	at, rule       int64
	w, v           impl.Walk
	s              impl.Subst
	strategy, fuel int64
}

func stepCalls() []stepCall {
	return []stepCall{
		{"RedexAt", func(a stepArgs) impl.Walk { impl.RedexAt(a.sys, a.t, a.at, a.rule); return impl.Walk{} }},
		{"StepAt", func(a stepArgs) impl.Walk { x, _ := impl.StepAt(a.sys, a.t, a.at, a.rule); return resting(x) }},
		{"StepsFrom", func(a stepArgs) impl.Walk { return impl.Walk{Steps: impl.StepsFrom(a.sys, a.t)} }},
		{"NormalIn", func(a stepArgs) impl.Walk { impl.NormalIn(a.sys, a.t); return impl.Walk{} }},
		{"WalkOk", func(a stepArgs) impl.Walk { impl.WalkOk(a.sys, a.w); return impl.Walk{} }},
		{"EndTerm", func(a stepArgs) impl.Walk { return resting(impl.EndTerm(a.sys, a.w)) }},
		{"JoinedWalk", func(a stepArgs) impl.Walk { x, _ := impl.JoinedWalk(a.sys, a.w, a.v); return x }},
		{"WalkInside", func(a stepArgs) impl.Walk { x, _ := impl.WalkInside(a.sys, a.w, a.t, a.at); return x }},
		{"WalkUnder", func(a stepArgs) impl.Walk { x, _ := impl.WalkUnder(a.sys, a.w, a.s); return x }},
	}
}

// stepSamples are arguments for which most of the functions have a result, and
// arguments that are not valid.
func stepSamples() []stepArgs {
	substs := []impl.Subst{{}, substOf([]int64{1, 2}, nil, []int64{-1}), full([]int64{1, -24}), full([]int64{2}), only(23, nested(60))}
	m := makerOf(20)
	found := []stepArgs{{}, {sys: sums(), t: start(), at: 3, w: ended(), v: resting([]int64{1, 2})}}
	for i := range 120 {
		b := longBooks()[i%len(longBooks())]
		r := m.trail(b, m.bed(b, 1+m.Int64N(20)), m.IntN(8))
		cut := m.IntN(len(r.moves) + 1)
		x := stepArgs{sys: b.system(), t: m.bed(b, 1+m.Int64N(30)).notation(), w: r.cut(0, cut).walk(), v: r.cut(cut, len(r.moves)).walk(), s: substs[i%len(substs)]}
		x.at, x.rule = m.Int64N(int64(len(x.t))), m.Int64N(int64(len(x.sys.Rules)))
		if steps := impl.StepsFrom(x.sys, x.t); len(steps) > 0 {
			x.at, x.rule = steps[i%len(steps)].At, steps[i%len(steps)].Rule
		}
		found = append(found, x)
	}
	return append(found, spoiled(found[1],
		func(x *stepArgs, nums []int64) { x.t = nums },
		func(x *stepArgs, nums []int64) { x.w.From = nums },
		func(x *stepArgs, nums []int64) { x.s = substOf([]int64{2}, nums) },
		func(x *stepArgs, nums []int64) { x.w.Steps = append(ended().Steps[:2], impl.Step{At: 1, To: nums}) },
	)...)
}

// spoiled returns arguments of which one is not valid: the system, or what one of
// the functions in turn makes of a slice that is no term.
func spoiled(valid stepArgs, spoil ...func(x *stepArgs, nums []int64)) []stepArgs {
	var found []stepArgs
	for i, x := range badSystems() {
		if len(x.sys.Rules) <= 13 && i%4 == 0 {
			bad := valid
			bad.sys = x.sys
			found = append(found, bad)
		}
	}
	for i, x := range noTerms() {
		bad := valid
		spoil[i%len(spoil)](&bad, x.nums)
		found = append(found, bad)
	}
	return found
}

// The samples are of use only if most calls have a result.
func TestStepSamplesHaveResults(t *testing.T) {
	for _, c := range stepCalls() {
		count := 0
		for _, x := range stepSamples() {
			if !isZeroWalk(c.run(x)) {
				count++
			}
		}
		if hasNone := c.name == "RedexAt" || c.name == "NormalIn" || c.name == "WalkOk"; !hasNone && count < 60 {
			t.Error(c.name, count)
		}
	}
}

// checkStepArgumentsAreKept checks that no call modifies an argument, and none
// returns memory of one or depends on what is behind its length.
func checkStepArgumentsAreKept(t *testing.T, calls []stepCall, samples []stepArgs) {
	t.Helper()
	for _, c := range calls {
		for i, x := range samples {
			sys, term, w, v, s := systemGuardOf(x.sys), guardOf(x.t), walkGuardOf(x.w), walkGuardOf(x.v), substGuardOf(x.s)
			touched := func() bool {
				return sys.touched() || term.touched() || w.touched() || v.touched() || s.touched()
			}
			result := c.run(stepArgs{sys.sys, term.nums, x.at, x.rule, w.w, v.w, s.s, x.strategy, x.fuel})
			if touched() {
				t.Fatalf("%s modifies an argument: sample %d", c.name, i)
			}
			if !equalWalks(result, c.run(x)) {
				t.Fatalf("%s depends on what is behind the length of a slice: sample %d", c.name, i)
			}
			overwriteWalk(result)
			if touched() {
				t.Fatalf("the result of %s shares memory with an argument: sample %d", c.name, i)
			}
		}
	}
}

// checkStepResultsAreNew checks that no result is kept and returned again.
func checkStepResultsAreNew(t *testing.T, calls []stepCall, samples []stepArgs) {
	t.Helper()
	for _, c := range calls {
		for i, x := range samples {
			first := c.run(x)
			kept := cloneWalk(first)
			overwriteWalk(c.run(x))
			if !equalWalks(first, kept) {
				t.Fatalf("two results of %s share memory: sample %d", c.name, i)
			}
			overwriteWalk(first)
			if third := c.run(x); !equalWalks(third, kept) {
				t.Fatalf("a result of %s was kept: sample %d: %v, then %v", c.name, i, kept, third)
			}
		}
	}
}

func TestStepArgumentsAreNotModified(t *testing.T) {
	checkStepArgumentsAreKept(t, stepCalls(), stepSamples())
}

func TestStepResultsAreNew(t *testing.T) { checkStepResultsAreNew(t, stepCalls(), stepSamples()) }

// checkSlicesApart checks that the terms of one result share no memory, nor what
// is behind their lengths.
func checkSlicesApart(t *testing.T, c stepCall, x stepArgs) {
	t.Helper()
	kept := slicesOfWalk(cloneWalk(c.run(x)))
	for changed := range kept {
		again := slicesOfWalk(c.run(x))
		overwrite(again[changed])
		for other, nums := range again {
			if other != changed && !slices.Equal(nums, kept[other]) {
				t.Fatalf("terms %d and %d of the result of %s share memory: %v", changed, other, c.name, x)
			}
		}
	}
}

func TestTermsOfAWalkAreApart(t *testing.T) {
	for _, c := range stepCalls() {
		for _, x := range stepSamples() {
			checkSlicesApart(t, c, x)
		}
	}
}

// All terms of the arguments are one slice, or parts of one.
func TestWalksOfOneSlice(t *testing.T) {
	g := guardOf([]int64{1, 2})
	steps := slices.Repeat([]impl.Step{{At: 1, To: g.nums}}, 30)
	w := impl.Walk{From: g.nums, Steps: steps}
	sys := impl.System{Sig: abc(), Rules: []impl.Rule{{L: g.nums[1:], R: g.nums[1:]}, {L: g.nums, R: g.nums}}}
	x := stepArgs{sys: sys, t: g.nums, at: 1, w: w, v: w, s: substOf(g.nums, g.nums[1:])}
	for _, c := range stepCalls() {
		want := cloneWalk(c.run(x))
		checkSlicesApart(t, c, x)
		overwriteWalk(c.run(x))
		if g.touched() || !equalWalks(c.run(x), want) {
			t.Fatal(c.name, g.nums)
		}
	}
	got, is := impl.JoinedWalk(sys, w, w)
	if !is || len(got.Steps) != 60 || !slices.Equal(got.From, []int64{1, 2}) || !slices.Equal(got.Steps[59].To, []int64{1, 2}) {
		t.Fatal(got, is)
	}
}

// What is behind the length of a list of steps is no part of it, also if the
// list may be made longer.
func TestStepsBehindTheLengthDoNotCount(t *testing.T) {
	for _, many := range []int{0, 1, 2, 3} {
		whole := append(ended().Steps, impl.Step{At: -1}, impl.Step{})
		one := impl.Walk{From: start(), Steps: whole[:many]}
		two := impl.Walk{From: slices.Clone(endOfSteps(one)), Steps: cloneWalk(ended()).Steps[many:]}
		if got, is := impl.JoinedWalk(sums(), one, two); !is || !equalWalks(got, ended()) {
			t.Fatal(many, got, is)
		}
		if !equalSteps(whole[:3], ended().Steps) || whole[3].At != -1 || len(whole[4].To) != 0 {
			t.Fatal(many, whole)
		}
	}
}

// A result that was kept for the memory of an argument would be wrong for what
// that memory holds later.
func TestStepResultsFollowTheContents(t *testing.T) {
	sys, nums, w := sums(), start(), cloneWalk(ended())
	if got, is := impl.StepAt(sys, nums, 3, 0); !is || !slices.Equal(got, []int64{0, 1, 2, 2}) || len(impl.StepsFrom(sys, nums)) != 2 || !impl.WalkOk(sys, w) {
		t.Fatal("f0(f1(f2),f0(f2,f2))", got)
	}
	nums[4] = -1
	if got, is := impl.StepAt(sys, nums, 3, 0); is || len(got) != 0 || impl.RedexAt(sys, nums, 3, 0) || len(impl.StepsFrom(sys, nums)) != 1 {
		t.Fatal("f0(f1(f2),f0(x0,f2))", got)
	}
	nums[1], nums[2], nums[3], nums[4] = 0, 2, 1, 2
	if !impl.RedexAt(sys, nums, 1, 0) || impl.NormalIn(sys, nums) {
		t.Fatal("f0(f0(f2,f1(f2)),f2)")
	}
	copy(sys.Rules[0].L, []int64{0, -1, 2})
	if got, is := impl.StepAt(sys, nums, 0, 0); !is || !slices.Equal(got, []int64{0, 2, 1, 2}) || impl.RedexAt(sys, nums, 1, 0) {
		t.Fatal("f0(x0,f2) -> x0", got)
	}
	copy(sys.Rules[1].L, []int64{0, -1, 1, -2})
	if impl.WalkOk(sys, w) || len(impl.EndTerm(sys, w)) != 0 {
		t.Fatal("f0(x0,f1(x1)) -> f1(f0(x0,x1))")
	}
	sys, w = sums(), cloneWalk(ended())
	copy(w.Steps[2].To, []int64{1, -1})
	if impl.WalkOk(sys, w) || len(impl.EndTerm(sys, w)) != 0 {
		t.Fatal("f1(x0)")
	}
	w.Steps[2].To[1] = 2
	if got, is := impl.WalkInside(sys, w, nums, 5); !is || !slices.Equal(got.Steps[2].To, []int64{0, 0, 2, 1, 2, 1, 2}) {
		t.Fatal("f1(f2)", got)
	}
	w.From[5] = 1
	if impl.WalkOk(sys, w) {
		t.Fatal("f1 without its argument")
	}
	sys.Sig.Arity[2] = 1
	if impl.NormalIn(sys, nums) || len(impl.StepsFrom(sys, nums)) != 0 || impl.WalkOk(sys, resting([]int64{-1})) {
		t.Fatal("f2 without its argument")
	}
}

// Numbers and lists far beyond every limit.
func TestStepsOfExtremeArguments(t *testing.T) {
	huge := []int64{math.MaxInt64, math.MinInt64, math.MaxInt64 - 1, math.MinInt64 + 1, 1 << 32, -1 << 32, 1<<32 + 1}
	for _, at := range huge {
		for _, rule := range append(huge, 0) {
			checkNoStep(t, sums(), start(), at, rule, false)
			checkNoWalk(t, sums(), impl.Walk{From: start(), Steps: []impl.Step{{At: at, Rule: rule, To: start()}}})
		}
		checkNoStep(t, sums(), start(), 0, at, false)
		if got, is := impl.WalkInside(sums(), ended(), start(), at); is || !isZeroWalk(got) {
			t.Error(at, got)
		}
	}
	checkNoWalk(t, sums(), impl.Walk{From: start(), Steps: make([]impl.Step, 100000)})
	if got := impl.StepsFrom(sums(), make([]int64, 100000)); len(got) != 0 || impl.NormalIn(sums(), nested(100000)) {
		t.Error(got)
	}
}
