package tests

import (
	"slices"
	"testing"

	"loop.example/g00895/impl"
)

// walkOfPeak returns a peak as a walk of two steps that go to its sides.
func walkOfPeak(p impl.Peak) impl.Walk {
	return impl.Walk{From: p.Top, Steps: []impl.Step{{At: p.At, Rule: p.Under, To: p.Left}, {At: p.At, Rule: p.Over, To: p.Right}}}
}

// peakOfWalk returns the peak that was given as a walk.
func peakOfWalk(w impl.Walk) impl.Peak {
	if len(w.Steps) < 2 {
		return impl.Peak{Top: w.From}
	}
	one, two := w.Steps[0], w.Steps[1]
	return impl.Peak{Top: w.From, Left: one.To, Right: two.To, At: one.At, Under: one.Rule, Over: two.Rule}
}

// walkOfPeaks returns the terms of all the peaks as the steps of a walk.
func walkOfPeaks(peaks []impl.Peak) impl.Walk {
	w := impl.Walk{}
	for _, p := range peaks {
		w.Steps = append(w.Steps, impl.Step{At: p.At, To: p.Top}, impl.Step{Rule: p.Under, To: p.Left}, impl.Step{Rule: p.Over, To: p.Right})
	}
	return w
}

// peakCalls are the functions of chapter 11. The rule over is the rule of the
// arguments, the rule under is their fuel, and the walks are peaks.
func peakCalls() []stepCall {
	return []stepCall{
		{"OverlapsIn", func(a stepArgs) impl.Walk { return resting(impl.OverlapsIn(a.sys, a.rule, a.fuel)) }},
		{"PeakAt", func(a stepArgs) impl.Walk {
			p, is := impl.PeakAt(a.sys, a.rule, a.at, a.fuel)
			if !is {
				return resting(p.Top)
			}
			return walkOfPeak(p)
		}},
		{"PeaksOf", func(a stepArgs) impl.Walk { peaks, _ := impl.PeaksOf(a.sys); return walkOfPeaks(peaks) }},
		{"SamePeak", func(a stepArgs) impl.Walk { impl.SamePeak(peakOfWalk(a.w), peakOfWalk(a.v)); return impl.Walk{} }},
		{"TrivialPeak", func(a stepArgs) impl.Walk { impl.TrivialPeak(peakOfWalk(a.w)); return impl.Walk{} }},
		{"PeakOk", func(a stepArgs) impl.Walk { impl.PeakOk(a.sys, peakOfWalk(a.w)); return impl.Walk{} }},
		{"PeakUnder", func(a stepArgs) impl.Walk {
			p, is := impl.PeakUnder(a.sys, peakOfWalk(a.w), a.s)
			if !is {
				return resting(p.Top)
			}
			return walkOfPeak(p)
		}},
		{"RootPeaks", func(a stepArgs) impl.Walk { return walkOfPeaks(impl.RootPeaks(a.sys)) }},
	}
}

// peakSamples are arguments for which most of the functions have a result, and
// arguments that are not valid.
func peakSamples() []stepArgs {
	substs := []impl.Subst{{}, substOf([]int64{1, 2}, nil, []int64{-1}), full([]int64{-24}), full([]int64{2}), only(23, nested(60))}
	var found []stepArgs
	for _, b := range append(peakBooks(), longBooks()[:5]...) {
		crossings := b.crossings()
		for i, c := range crossings {
			if i%2 == 0 {
				continue
			}
			other := crossings[i*7%len(crossings)].peak()
			x := stepArgs{sys: b.system(), at: c.place.at, rule: c.over, fuel: c.under, s: substs[i%len(substs)]}
			x.w, x.v = walkOfPeak(c.peak()), walkOfPeak(other)
			found = append(found, x)
		}
	}
	sys, p := overlapping()
	valid := stepArgs{sys: sys, fuel: 1, w: walkOfPeak(p), v: walkOfPeak(p)}
	found = append(found, valid, stepArgs{})
	peak := func(x *stepArgs, change func(q *impl.Peak)) {
		q := p
		change(&q)
		x.w = walkOfPeak(q)
	}
	return append(found, spoiled(valid,
		func(x *stepArgs, nums []int64) { peak(x, func(q *impl.Peak) { q.Top = nums }) },
		func(x *stepArgs, nums []int64) { peak(x, func(q *impl.Peak) { q.Left = nums }) },
		func(x *stepArgs, nums []int64) { peak(x, func(q *impl.Peak) { q.Right = nums }) },
		func(x *stepArgs, nums []int64) { x.s = substOf([]int64{2}, nums) },
	)...)
}

// The samples are of use only if many calls have a result.
func TestPeakSamplesHaveResults(t *testing.T) {
	for _, c := range peakCalls() {
		count := 0
		for _, x := range peakSamples() {
			if !isZeroWalk(c.run(x)) {
				count++
			}
		}
		if hasNone := c.name == "SamePeak" || c.name == "TrivialPeak" || c.name == "PeakOk"; !hasNone && count < 40 {
			t.Error(c.name, count)
		}
	}
}

func TestPeakArgumentsAreNotModified(t *testing.T) {
	checkStepArgumentsAreKept(t, peakCalls(), peakSamples())
}

func TestPeakResultsAreNew(t *testing.T) { checkStepResultsAreNew(t, peakCalls(), peakSamples()) }

func TestTermsOfPeaksAreApart(t *testing.T) {
	for _, c := range peakCalls() {
		for i, x := range peakSamples() {
			// Each check of many peaks takes a while, and most of the lists are alike.
			if len(c.run(x).Steps) < 20 || i%10 == 0 {
				checkSlicesApart(t, c, x)
			}
		}
	}
}

// overwritePeaks changes all the memory that a list of peaks reaches.
func overwritePeaks(list []impl.Peak) {
	whole := list[:cap(list)]
	for i := range whole {
		overwriteWalk(walkOfPeak(whole[i]))
		whole[i] = impl.Peak{Top: []int64{-8888}, At: -7777}
	}
}

// The list of peaks is new too, with what is behind its length.
func TestListsOfPeaksAreNew(t *testing.T) {
	for i, x := range peakSamples() {
		peaks, is := impl.PeaksOf(x.sys)
		roots := impl.RootPeaks(x.sys)
		kept := [2]impl.Walk{cloneWalk(walkOfPeaks(peaks)), cloneWalk(walkOfPeaks(roots))}
		overwritePeaks(roots)
		if !equalWalks(walkOfPeaks(peaks), kept[0]) {
			t.Fatalf("PeaksOf and RootPeaks share memory: sample %d", i)
		}
		overwritePeaks(peaks)
		again, does := impl.PeaksOf(x.sys)
		if is != does || !equalWalks(walkOfPeaks(again), kept[0]) || !equalWalks(walkOfPeaks(impl.RootPeaks(x.sys)), kept[1]) {
			t.Fatalf("a list was kept: sample %d", i)
		}
	}
}

// checkPeaksOfOneSlice checks that all terms of the arguments may be one slice, or
// parts of one.
func checkPeaksOfOneSlice(t *testing.T, calls []stepCall) {
	t.Helper()
	for _, nums := range [][]int64{{1, 2}, {1, 1, -1}, {0, -1, -1}, nested(60)} {
		g := guardOf(nums)
		part := g.nums[len(nums)-1:]
		for _, rules := range [][]impl.Rule{
			{{L: g.nums, R: g.nums}}, {{L: g.nums, R: part}, {L: g.nums, R: g.nums}}, {{L: g.nums, R: g.nums}, {L: g.nums, R: part}}, {{L: g.nums, R: part}, {L: part, R: part}},
		} {
			sys := impl.System{Sig: abc(), Rules: rules}
			for _, sides := range [][2][]int64{{g.nums, g.nums}, {part, g.nums}, {g.nums, part}, {part, part}} {
				w := walkOfPeak(impl.Peak{Top: g.nums, Left: sides[0], Right: sides[1], Under: 1})
				x := stepArgs{sys: sys, t: g.nums, fuel: 1, w: w, v: w, s: substOf(g.nums, part)}
				for _, c := range calls {
					want := cloneWalk(c.run(x))
					checkSlicesApart(t, c, x)
					overwriteWalk(c.run(x))
					if g.touched() || !equalWalks(c.run(x), want) {
						t.Fatal(c.name, nums, rules)
					}
				}
			}
		}
	}
}

func TestPeaksOfOneSlice(t *testing.T) { checkPeaksOfOneSlice(t, peakCalls()) }

// A result that was kept for the memory of an argument would be wrong for what
// that memory holds later.
func TestPeakResultsFollowTheContents(t *testing.T) {
	sys, p := overlapping()
	if !impl.PeakOk(sys, p) || !slices.Equal(impl.OverlapsIn(sys, 0, 1), []int64{0, 1}) || len(impl.RootPeaks(sys)) != 2 {
		t.Fatal("f1(f1(x0)) -> x0, f1(x0) -> f1(x0)")
	}
	p.Left[2] = 2
	if impl.PeakOk(sys, p) || impl.TrivialPeak(p) {
		t.Fatal("f1(f1(f2)) to the left")
	}
	p.Top[2] = 2
	p.Right[0] = 2
	if got, is := impl.PeakUnder(sys, p, substOf()); !impl.PeakOk(sys, p) || !is || !equalPeaks(got, p) {
		t.Fatal("f1(f1(f2))", got)
	}
	sys.Rules[1].L[1] = 2
	if impl.SystemOk(sys) || impl.PeakOk(sys, p) || len(impl.OverlapsIn(sys, 0, 1)) != 0 {
		t.Fatal("f1(f2) -> f1(x0)")
	}
	sys.Rules[1].R[1] = 2
	peaks, is := impl.PeaksOf(sys)
	if !slices.Equal(impl.OverlapsIn(sys, 0, 1), []int64{1}) || impl.PeakOk(sys, p) || !is || len(peaks) != 2 || len(impl.RootPeaks(sys)) != 0 {
		t.Fatal("f1(f2) -> f1(f2)", peaks)
	}
	p.At = 1
	if !impl.PeakOk(sys, p) || !impl.SamePeak(p, peaks[1]) {
		t.Fatal("f1(f1(f2)) at 1", peaks)
	}
	if got, is := impl.PeakAt(sys, 0, 1, 1); !is || !equalPeaks(got, p) {
		t.Fatal("f1(f1(f2)) at 1", got)
	}
	sys.Rules[0].R[0] = 2
	if !impl.PeakOk(sys, p) || len(impl.OverlapsIn(sys, 0, 0)) != 1 {
		t.Fatal("f1(f1(x0)) -> f2")
	}
	sys.Sig.Arity[2] = 1
	if got, is := impl.PeaksOf(sys); is || len(got) != 0 || impl.PeakOk(sys, p) {
		t.Fatal("f2 without its argument")
	}
}

// What is behind the length of a list of rules is no part of it.
func TestRulesBehindTheLengthHaveNoPeaks(t *testing.T) {
	valid, p := overlapping()
	for size := range 3 {
		rules := append(slices.Clone(valid.Rules), impl.Rule{})
		sys := impl.System{Sig: impl.Sig{Arity: []int64{2, 1, 0, -1}[:3]}, Rules: rules[:size]}
		want := []int{0, 1, 4}[size]
		if got, is := impl.PeaksOf(sys); !is || len(got) != want {
			t.Error(size, got, is)
		}
		if impl.PeakOk(sys, p) != (size == 2) || len(impl.OverlapsIn(sys, 0, 1)) != max(0, 2*(size-1)) {
			t.Error(size)
		}
	}
}
