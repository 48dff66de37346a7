package tests

import (
	"math"
	"slices"
	"testing"

	"loop.example/g00895/impl"
)

// checkNoPeaks checks that every function returns its zero value for a system, a
// peak and a substitution of which one is not valid.
func checkNoPeaks(t *testing.T, name string, sys impl.System, p impl.Peak, s impl.Subst) {
	t.Helper()
	for over := int64(-1); over <= 3; over++ {
		for under := int64(-1); under <= 3; under++ {
			if got := impl.OverlapsIn(sys, over, under); len(got) != 0 {
				t.Fatal(name, sys, over, under, got)
			}
			for at := int64(-1); at <= 3; at++ {
				if got, is := impl.PeakAt(sys, over, at, under); is || !isZeroPeak(got) {
					t.Fatal(name, sys, over, at, under, got)
				}
			}
		}
	}
	if got, is := impl.PeaksOf(sys); is || len(got)+len(impl.RootPeaks(sys)) != 0 {
		t.Fatal(name, sys, got)
	}
	checkNoPeak(t, name, sys, p, s)
}

// checkNoPeak checks that p is not accepted.
func checkNoPeak(t *testing.T, name string, sys impl.System, p impl.Peak, s impl.Subst) {
	t.Helper()
	if impl.PeakOk(sys, p) {
		t.Fatal(name, sys, p)
	}
	if got, is := impl.PeakUnder(sys, p, s); is || !isZeroPeak(got) {
		t.Fatal(name, sys, p, s, got)
	}
}

// overlapping is a system in which each of the two rules overlaps the other one,
// and the first one itself, and the first peak of it.
func overlapping() (impl.System, impl.Peak) {
	sys := systemOf([]int64{1, 1, -1}, []int64{-1}, []int64{1, -1}, []int64{1, -1})
	return sys, impl.Peak{Top: []int64{1, 1, -1}, Left: []int64{1, 1, -1}, Right: []int64{-1}, Under: 1}
}

func TestPeaksOfTheOverlappingSystem(t *testing.T) {
	sys, p := overlapping()
	got, is := impl.PeaksOf(sys)
	if !is || len(got) != 4 || !equalPeaks(got[0], p) || !impl.PeakOk(sys, p) {
		t.Error(got, is)
	}
	if under, does := impl.PeakUnder(sys, p, substOf()); !does || !equalPeaks(under, p) {
		t.Error(under, does)
	}
}

func TestPeaksOfInvalidSystems(t *testing.T) {
	valid, p := overlapping()
	for _, x := range badSystems() {
		checkNoPeaks(t, x.name, x.sys, p, substOf())
	}
	for _, sig := range badSigs() {
		checkNoPeaks(t, "a bad signature", impl.System{Sig: sig, Rules: valid.Rules}, p, substOf())
	}
	for _, x := range badRules() {
		for at := range 3 {
			rules := slices.Insert(slices.Clone(valid.Rules), at, x.rule)
			checkNoPeaks(t, x.name, impl.System{Sig: x.sig, Rules: rules}, p, substOf())
		}
	}
	for _, size := range []int{13, 14, 100, 5000} {
		checkNoPeaks(t, "too many rules", many(size, []int64{1, 1, -1}, []int64{-1}), p, substOf())
	}
}

func TestPeaksOfRulesThatThereAreNot(t *testing.T) {
	sys, p := overlapping()
	for _, rule := range []int64{-1, -2, 2, 3, 12, 1 << 32, 1<<32 + 1, math.MinInt64, math.MaxInt64} {
		for _, other := range []int64{0, 1, rule} {
			for _, pair := range [][2]int64{{rule, other}, {other, rule}} {
				if got := impl.OverlapsIn(sys, pair[0], pair[1]); len(got) != 0 {
					t.Error(pair, got)
				}
				for at := int64(-1); at <= 2; at++ {
					if got, is := impl.PeakAt(sys, pair[0], at, pair[1]); is || !isZeroPeak(got) {
						t.Error(pair, at, got)
					}
				}
				q := clonePeak(p)
				q.Over, q.Under = pair[0], pair[1]
				checkNoPeak(t, "no such rule", sys, q, substOf())
			}
		}
	}
}

func TestPeaksAtNoPosition(t *testing.T) {
	sys, p := overlapping()
	for _, at := range append(positionsOutside([]int64{1, 1, -1}), 2, 1<<32+1) {
		if got, is := impl.PeakAt(sys, 0, at, 1); is || !isZeroPeak(got) {
			t.Error(at, got)
		}
		q := clonePeak(p)
		q.At = at
		checkNoPeak(t, "no such position", sys, q, substOf())
	}
}

func TestPeaksOfNoTerms(t *testing.T) {
	valid, p := overlapping()
	for _, x := range noTerms() {
		for _, sys := range []impl.System{{Sig: x.sig, Rules: valid.Rules}, {Sig: x.sig}} {
			top, left, right := clonePeak(p), clonePeak(p), clonePeak(p)
			top.Top, left.Left, right.Right = x.nums, x.nums, x.nums
			for _, q := range []impl.Peak{top, left, right, {Top: x.nums, Left: x.nums, Right: x.nums, Under: 1}} {
				checkNoPeak(t, x.name, sys, q, substOf())
			}
		}
	}
	for _, q := range []impl.Peak{{}, {Under: 1}, {Over: 1}, {At: 1}, {Top: []int64{}, Left: []int64{}, Right: []int64{}, Under: 1}} {
		checkNoPeak(t, "nothing", valid, q, substOf())
		checkNoPeak(t, "nothing", impl.System{}, q, substOf())
		checkNoPeak(t, "nothing", systemOf(), q, substOf())
	}
}

// A step that leads nowhere is not one to nothing.
func TestPeaksOfEmptySides(t *testing.T) {
	sys, p := overlapping()
	for _, nums := range [][]int64{nil, {}} {
		for _, q := range []impl.Peak{
			{Top: p.Top, Left: nums, Right: p.Right, Under: 1},
			{Top: p.Top, Left: p.Left, Right: nums, Under: 1},
			{Top: p.Top, Left: nums, Right: nums, Under: 1},
			{Top: nums, Left: p.Left, Right: p.Right, Under: 1},
			{Top: []int64{2}, Left: nums, Right: nums, Under: 1},
			{Top: []int64{0, 2, 2}, Left: nums, Right: nums, At: 1},
		} {
			checkNoPeak(t, "an empty side", sys, q, substOf())
		}
	}
}

func TestPeakUnderOfInvalidSubstitutions(t *testing.T) {
	sys, p := overlapping()
	for _, x := range badSubsts() {
		for _, rules := range [][]impl.Rule{sys.Rules, rulesOf([][]int64{{2}, {2}, {2}, {2}}), nil} {
			for _, q := range []impl.Peak{p, {Top: []int64{2}, Left: []int64{2}, Right: []int64{2}, Under: 1}, {}} {
				if got, is := impl.PeakUnder(impl.System{Sig: x.sig, Rules: rules}, q, x.s); is || !isZeroPeak(got) {
					t.Fatal(x.name, q, got)
				}
			}
		}
	}
	// An element that is not valid counts also if its variable does not occur.
	if got, is := impl.PeakUnder(sys, p, only(23, []int64{0})); is || !isZeroPeak(got) {
		t.Error(got)
	}
}

func TestPeaksOfVeryLongSlices(t *testing.T) {
	sys, p := overlapping()
	long := make([]int64, 100000)
	checkNoPeak(t, "long", sys, impl.Peak{Top: long, Left: long, Right: long, Under: 1}, substOf())
	if got, is := impl.PeakUnder(sys, p, impl.Subst{Terms: make([][]int64, 100000)}); is || !isZeroPeak(got) {
		t.Error(got)
	}
	checkNoPeaks(t, "long", many(100000, []int64{2}, []int64{2}), p, substOf())
	checkNoPeaks(t, "long", systemOf(long, long), p, substOf())
	if !impl.SamePeak(impl.Peak{Top: long}, impl.Peak{Top: slices.Clone(long)}) || impl.SamePeak(impl.Peak{Top: long}, impl.Peak{Top: long[1:]}) {
		t.Error("SamePeak")
	}
}
