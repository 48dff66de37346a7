package tests

import (
	"slices"
	"testing"

	"loop.example/g00895/impl"
)

// confluenceCalls are the functions of chapter 12. The first walk is a peak, the
// second term is the one from which the other walk starts, and the number of steps
// is the fuel.
func confluenceCalls() []stepCall {
	return []stepCall{
		{"JoinedPeak, the first", func(a stepArgs) impl.Walk {
			v, _, _ := impl.JoinedPeak(a.sys, peakOfWalk(a.w), a.fuel)
			return v
		}},
		{"JoinedPeak, the second", func(a stepArgs) impl.Walk {
			_, w, _ := impl.JoinedPeak(a.sys, peakOfWalk(a.w), a.fuel)
			return w
		}},
		{"JoinedPeak, both", func(a stepArgs) impl.Walk {
			v, w, _ := impl.JoinedPeak(a.sys, peakOfWalk(a.w), a.fuel)
			return walkThrough(slices.Concat(slicesOfWalk(v), slicesOfWalk(w)))
		}},
		{"UnjoinedOf", func(a stepArgs) impl.Walk { return walkOfPeaks(impl.UnjoinedOf(a.sys, a.fuel)) }},
		{"JoinsAll", func(a stepArgs) impl.Walk { impl.JoinsAll(a.sys, a.fuel); return impl.Walk{} }},
		{"OrthogonalIn", func(a stepArgs) impl.Walk { impl.OrthogonalIn(a.sys); return impl.Walk{} }},
		{"WeaklyIn", func(a stepArgs) impl.Walk { impl.WeaklyIn(a.sys); return impl.Walk{} }},
		{"ParallelTo", func(a stepArgs) impl.Walk { impl.ParallelTo(a.sys, a.t, a.v.From); return impl.Walk{} }},
		{"ClosedIn", func(a stepArgs) impl.Walk { impl.ClosedIn(a.sys); return impl.Walk{} }},
		{"SplitOf", func(a stepArgs) impl.Walk {
			p, left, right, is := impl.SplitOf(a.sys, a.fuel)
			if !is {
				return impl.Walk{}
			}
			return walkThrough([][]int64{p.Top, p.Left, p.Right, left, right})
		}},
	}
}

// confluenceSamples are arguments for which many of the functions have a result, and
// arguments that are not valid.
func confluenceSamples() []stepArgs {
	var books []book
	for _, x := range closings() {
		books = append(books, x.b)
	}
	var found []stepArgs
	for i, b := range append(append(books, peakBooks()...), longBooks()...) {
		crossings := b.crossings()
		for j, c := range crossings {
			if len(crossings) > 6 && j%5 > 0 {
				continue
			}
			x := stepArgs{sys: b.system(), t: c.top.notation(), fuel: int64(i+j) % 4, w: walkOfPeak(c.peak()), v: resting(c.right.notation())}
			found = append(found, x)
		}
	}
	sys, p := trivialPeak()
	valid := stepArgs{sys: sys, t: p.Top, fuel: 1, w: walkOfPeak(p), v: resting(p.Left)}
	late := valid
	late.fuel = 21
	found = append(found, valid, late, stepArgs{})
	return append(found, spoiled(valid,
		func(x *stepArgs, nums []int64) { x.t = nums },
		func(x *stepArgs, nums []int64) { x.v.From = nums },
		func(x *stepArgs, nums []int64) { x.w.From = nums },
		func(x *stepArgs, nums []int64) { x.w.Steps = []impl.Step{{Rule: 1, To: nums}, {To: nums}} },
	)...)
}

// The samples are of use only if many calls have a result.
func TestConfluenceSamplesHaveResults(t *testing.T) {
	hasNone := []string{"JoinsAll", "OrthogonalIn", "WeaklyIn", "ParallelTo", "ClosedIn"}
	for _, c := range confluenceCalls() {
		count := 0
		for _, x := range confluenceSamples() {
			if !isZeroWalk(c.run(x)) {
				count++
			}
		}
		if !slices.Contains(hasNone, c.name) && count < 25 {
			t.Error(c.name, count)
		}
	}
}

func TestConfluenceArgumentsAreNotModified(t *testing.T) {
	checkStepArgumentsAreKept(t, confluenceCalls(), confluenceSamples())
}

func TestConfluenceResultsAreNew(t *testing.T) {
	checkStepResultsAreNew(t, confluenceCalls(), confluenceSamples())
}

func TestTermsOfConfluenceAreApart(t *testing.T) {
	for _, c := range confluenceCalls() {
		for _, x := range confluenceSamples() {
			checkSlicesApart(t, c, x)
		}
	}
}

// The list of peaks is new too, with what is behind its length.
func TestListsOfUnjoinedPeaksAreNew(t *testing.T) {
	for i, x := range confluenceSamples() {
		peaks, _ := impl.PeaksOf(x.sys)
		open := impl.UnjoinedOf(x.sys, x.fuel)
		kept := [2]impl.Walk{cloneWalk(walkOfPeaks(peaks)), cloneWalk(walkOfPeaks(open))}
		overwritePeaks(open)
		if !equalWalks(walkOfPeaks(peaks), kept[0]) {
			t.Fatalf("PeaksOf and UnjoinedOf share memory: sample %d", i)
		}
		overwritePeaks(peaks)
		if !equalWalks(walkOfPeaks(impl.UnjoinedOf(x.sys, x.fuel)), kept[1]) {
			t.Fatalf("a list was kept: sample %d", i)
		}
	}
}

// The lists of steps of both walks are new too, with what is behind their lengths.
func TestWalksOfJoinedPeaksAreNew(t *testing.T) {
	for i, x := range confluenceSamples() {
		v, w, is := impl.JoinedPeak(x.sys, peakOfWalk(x.w), x.fuel)
		kept := [2]impl.Walk{cloneWalk(v), cloneWalk(w)}
		overwriteWalk(v)
		if !equalWalks(w, kept[1]) {
			t.Fatalf("the two walks share memory: sample %d", i)
		}
		overwriteWalk(w)
		v, w, does := impl.JoinedPeak(x.sys, peakOfWalk(x.w), x.fuel)
		if is != does || !equalWalks(v, kept[0]) || !equalWalks(w, kept[1]) {
			t.Fatalf("a walk was kept: sample %d", i)
		}
	}
}

func TestConfluenceOfOneSlice(t *testing.T) { checkPeaksOfOneSlice(t, confluenceCalls()) }

// A result that was kept for the memory of an argument would be wrong for what that
// memory holds later.
func TestConfluenceResultsFollowTheContents(t *testing.T) {
	sys, p := trivialPeak()
	nums := []int64{0, 1, 2, 2}
	if _, _, is := impl.JoinedPeak(sys, p, 0); !is || !impl.WeaklyIn(sys) || !impl.ParallelTo(sys, nums, []int64{0, 2, 2}) {
		t.Fatal("f1(x0) -> x0, f1(f2) -> f2")
	}
	p.Left[0] = -1
	nums[3] = -1
	if _, _, is := impl.JoinedPeak(sys, p, 0); is || impl.ParallelTo(sys, nums, []int64{0, 2, 2}) || !impl.ParallelTo(sys, nums, []int64{0, 2, -1}) {
		t.Fatal("x0 to the left")
	}
	sys.Sig.Arity = append(sys.Sig.Arity, 0)
	p.Left[0], sys.Rules[1].R[0] = 3, 3
	checkSplit(t, sys, 2, parting{p, []int64{3}, []int64{2}}, true)
	if _, _, is := impl.JoinedPeak(sys, p, 20); is || len(impl.UnjoinedOf(sys, 20)) != 2 || impl.JoinsAll(sys, 20) || impl.ClosedIn(sys) {
		t.Fatal("f1(f2) -> f3")
	}
	sys.Rules[0].L = []int64{0, -1, 1, -1}
	if got := verdictOf(sys); got != (verdict{}) || !impl.JoinsAll(systemOf(), 0) || len(impl.UnjoinedOf(sys, 20)) != 1 {
		t.Fatal("f0(x0,f1(x0)) -> x0", got)
	}
	sys.Rules[0].L[3], sys.Rules[0].R[0] = -2, -2
	if got := verdictOf(sys); got != (verdict{}) || len(impl.UnjoinedOf(sys, 20)) != 1 {
		t.Fatal("f0(x0,f1(x1)) -> x1", got)
	}
	sys.Rules[1].L[1] = -1
	sys.Rules[1].L[0] = 4
	if got := verdictOf(sys); got != (verdict{}) {
		t.Fatal("no such symbol", got)
	}
	sys.Sig.Arity = append(sys.Sig.Arity, 1)
	if got := verdictOf(sys); got != (verdict{true, true, true}) || !impl.JoinsAll(sys, 0) {
		t.Fatal("f4(x0) -> f3", got)
	}
}

// What is behind the length of a list of rules is no part of it.
func TestRulesBehindTheLengthAreNotJoined(t *testing.T) {
	rules := append(bookOf(first(), second()).system().Rules, impl.Rule{})
	for size, want := range []verdict{{true, true, true}, {true, true, true}, {}} {
		sys := impl.System{Sig: abc(), Rules: rules[:size]}
		if got := verdictOf(sys); got != want || impl.JoinsAll(sys, 5) != (size < 2) || len(impl.UnjoinedOf(sys, 5)) != size/2*2 {
			t.Error(size, got)
		}
		if _, _, _, is := impl.SplitOf(sys, 5); is != (size == 2) {
			t.Error(size)
		}
	}
}
