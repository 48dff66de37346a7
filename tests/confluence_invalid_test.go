package tests

import (
	"math"
	"slices"
	"testing"

	"loop.example/g00895/impl"
)

// checkNoPeakJoined checks that a peak is not joined by any number of steps.
func checkNoPeakJoined(t *testing.T, name string, sys impl.System, p impl.Peak) {
	t.Helper()
	for _, steps := range []int64{-1, 0, 1, 20, 21} {
		if v, w, is := impl.JoinedPeak(sys, p, steps); is || !isZeroWalk(v) || !isZeroWalk(w) {
			t.Fatal(name, sys, p, steps, v, w)
		}
	}
}

// checkNoJoins checks that every function returns its zero value for a system and
// any peak and terms.
func checkNoJoins(t *testing.T, name string, sys impl.System, p impl.Peak) {
	t.Helper()
	checkNoPeakJoined(t, name, sys, p)
	for _, steps := range []int64{-1, 0, 1, 20, 21} {
		checkNoUnjoined(t, sys, steps)
		checkSplit(t, sys, steps, parting{}, false)
	}
	if got := verdictOf(sys); got != (verdict{}) {
		t.Fatal(name, sys, got)
	}
	for _, nums := range [][]int64{p.Top, p.Left, p.Right, {2}, {0}, {-1}, nil, {}} {
		for _, u := range [][]int64{nums, p.Left, p.Right, {-1}, nil} {
			if impl.ParallelTo(sys, nums, u) {
				t.Fatal(name, sys, nums, u)
			}
		}
	}
}

// trivialPeak is a system in which everything holds but that it is orthogonal, and
// one of its peaks.
func trivialPeak() (impl.System, impl.Peak) {
	sys := systemOf([]int64{1, -1}, []int64{-1}, []int64{1, 2}, []int64{2})
	return sys, impl.Peak{Top: []int64{1, 2}, Left: []int64{2}, Right: []int64{2}, Under: 1}
}

func TestJoinsOfTheTrivialPeak(t *testing.T) {
	sys, p := trivialPeak()
	for _, steps := range someDepths(0) {
		if v, w, is := impl.JoinedPeak(sys, p, steps); !is || !equalWalks(v, resting([]int64{2})) || !equalWalks(w, v) || !impl.JoinsAll(sys, steps) {
			t.Error(steps, v, w, is)
		}
	}
	if got := verdictOf(sys); got != (verdict{weakly: true, closed: true}) || !impl.ParallelTo(sys, p.Top, p.Left) {
		t.Error(got)
	}
}

func TestJoinsOfInvalidSystems(t *testing.T) {
	valid, p := trivialPeak()
	for _, x := range badSystems() {
		checkNoJoins(t, x.name, x.sys, p)
	}
	for _, sig := range badSigs() {
		checkNoJoins(t, "a bad signature", impl.System{Sig: sig, Rules: valid.Rules}, p)
	}
	for _, x := range badRules() {
		for at := range 3 {
			rules := slices.Insert(slices.Clone(valid.Rules), at, x.rule)
			checkNoJoins(t, x.name, impl.System{Sig: x.sig, Rules: rules}, p)
		}
	}
	for _, size := range []int{13, 14, 100, 5000} {
		checkNoJoins(t, "too many rules", many(size, []int64{1, -1}, []int64{-1}), p)
		checkNoJoins(t, "too many rules without a peak", many(size, []int64{0, 1, -1, -2}, []int64{-1}), p)
	}
}

// Only the number of steps is not valid, also without a peak and for sides that are
// the same.
func TestJoinsByInvalidSteps(t *testing.T) {
	trivial, p := trivialPeak()
	for _, sys := range []impl.System{trivial, systemOf(), sums(), bookOf(assoc()).system(), bookOf(undo()).system(), bookOf(first(), second()).system(), bookOf(merge()).system(), backAndForth().system()} {
		for _, steps := range noDepths() {
			checkNoUnjoined(t, sys, steps)
			checkSplit(t, sys, steps, parting{}, false)
			peaks, _ := impl.PeaksOf(sys)
			for _, q := range append(peaks, p) {
				if v, w, is := impl.JoinedPeak(sys, q, steps); is || !isZeroWalk(v) || !isZeroWalk(w) {
					t.Fatal(sys, q, steps, v, w)
				}
			}
		}
	}
}

func TestJoinsOfInvalidPeaks(t *testing.T) {
	sys, p := trivialPeak()
	change := func(name string, change func(q *impl.Peak)) {
		t.Helper()
		q := clonePeak(p)
		change(&q)
		checkNoPeakJoined(t, name, sys, q)
	}
	for _, x := range noTerms() {
		checkNoPeakJoined(t, x.name, impl.System{Sig: x.sig, Rules: sys.Rules}, impl.Peak{Top: x.nums, Left: x.nums, Right: x.nums, Under: 1})
		checkNoPeakJoined(t, x.name, impl.System{Sig: x.sig}, impl.Peak{Top: x.nums, Left: x.nums, Right: x.nums})
		// Of another signature it may be a term.
		if !slices.Equal(x.sig.Arity, sys.Sig.Arity) {
			continue
		}
		change(x.name, func(q *impl.Peak) { q.Top = x.nums })
		change(x.name, func(q *impl.Peak) { q.Left = x.nums })
		change(x.name, func(q *impl.Peak) { q.Right = x.nums })
		change(x.name, func(q *impl.Peak) { q.Left, q.Right = x.nums, x.nums })
		change(x.name, func(q *impl.Peak) { q.Top, q.Left, q.Right = x.nums, x.nums, x.nums })
	}
	for _, rule := range []int64{-1, 2, 3, 12, 1 << 32, 1<<32 + 1, math.MinInt64, math.MaxInt64} {
		change("no such rule under", func(q *impl.Peak) { q.Under = rule })
		change("no such rule over", func(q *impl.Peak) { q.Over = rule })
	}
	for _, at := range append(positionsOutside([]int64{1, 2}), 1, 1<<32) {
		change("no such position", func(q *impl.Peak) { q.At = at })
	}
	change("a rule with itself", func(q *impl.Peak) { q.Over = 1 })
	change("another Left", func(q *impl.Peak) { q.Left = []int64{1, 2} })
	change("another Right", func(q *impl.Peak) { q.Right = []int64{1, 2} })
	change("another Top", func(q *impl.Peak) { q.Top = []int64{1, 1, 2} })
	change("nothing", func(q *impl.Peak) { *q = impl.Peak{} })
	checkNoPeakJoined(t, "no rules", systemOf(), p)
	checkNoPeakJoined(t, "nothing", impl.System{}, impl.Peak{})
	checkNoPeakJoined(t, "nothing", systemOf(), impl.Peak{Top: []int64{}, Left: []int64{}, Right: []int64{}})
}

// Only one of the terms is not valid, or both are, and the same.
func TestParallelToOfNoTerms(t *testing.T) {
	for _, x := range noTerms() {
		for _, rules := range [][]impl.Rule{nil, rulesOf([][]int64{{0}, {0}}), rulesOf([][]int64{{2}, {2}}), rulesOf([][]int64{{1, -1}, {-1}, {0, -1, -2}, {-1}, {2}, {1, 2}})} {
			sys := impl.System{Sig: x.sig, Rules: rules}
			for _, u := range [][]int64{x.nums, {2}, {-1}, {1, 2}, big(), nil} {
				if impl.ParallelTo(sys, x.nums, u) || impl.ParallelTo(sys, u, x.nums) {
					t.Fatal(x.name, sys, u)
				}
			}
		}
	}
	for _, pair := range [][2][]int64{{nil, nil}, {{}, nil}, {{0, 2}, {0, 2}}, {{2}, nil}, {nil, {2}}, {{1, 2, 2}, {2, 2}}} {
		if impl.ParallelTo(bookOf(shrink()).system(), pair[0], pair[1]) || impl.ParallelTo(systemOf(), pair[0], pair[1]) {
			t.Error(pair)
		}
	}
}

func TestJoinsOfVeryLongSlices(t *testing.T) {
	sys, p := trivialPeak()
	long := make([]int64, 100000)
	checkNoPeakJoined(t, "long", sys, impl.Peak{Top: long, Left: long, Right: long, Under: 1})
	checkNoJoins(t, "long", many(100000, []int64{2}, []int64{2}), p)
	checkNoJoins(t, "long", systemOf(long, long), p)
	if impl.ParallelTo(sys, long, long) || impl.ParallelTo(sys, p.Top, long) || impl.ParallelTo(sys, long, p.Top) {
		t.Error("ParallelTo")
	}
}

// Nil and empty slices are the same.
func TestJoinsWithoutRules(t *testing.T) {
	for _, rules := range [][]impl.Rule{nil, {}} {
		sys := impl.System{Sig: abc(), Rules: rules}
		if got := verdictOf(sys); got != (verdict{true, true, true}) || !impl.JoinsAll(sys, 0) || !impl.JoinsAll(sys, 20) {
			t.Error(got)
		}
		for _, nums := range someTerms() {
			if !impl.ParallelTo(sys, nums, slices.Clone(nums)) || impl.ParallelTo(sys, nums, append([]int64{1}, nums...)) {
				t.Error(nums)
			}
		}
		checkSplit(t, sys, 20, parting{}, false)
	}
}
