package tests

import (
	"slices"
	"testing"

	"loop.example/g00895/impl"
)

// checkPeaks checks what every function says of the peaks of a system, and that
// PeakOk accepts each of them.
func checkPeaks(t *testing.T, b book) []crossing {
	t.Helper()
	sys, crossings := b.system(), b.crossings()
	checkOverlaps(t, b, crossings)
	want, are := peaksOf(crossings)
	got, is := impl.PeaksOf(sys)
	if is != are || !slices.EqualFunc(got, want, equalPeaks) {
		t.Fatal(sys, got, is, want, are)
	}
	isInside := func(p impl.Peak) bool { return p.At != 0 }
	if roots := impl.RootPeaks(sys); !slices.EqualFunc(roots, slices.DeleteFunc(want, isInside), equalPeaks) {
		t.Fatal(sys, roots)
	}
	for _, p := range got {
		if !impl.PeakOk(sys, p) {
			t.Fatal(sys, p)
		}
	}
	return crossings
}

// checkOverlaps checks OverlapsIn and PeakAt for all rules and positions, and
// for some that there are not.
func checkOverlaps(t *testing.T, b book, crossings []crossing) {
	t.Helper()
	sys, rules := b.system(), int64(len(b.list))
	for over := int64(-1); over <= rules; over++ {
		for under := int64(-1); under <= rules; under++ {
			found := map[int64]crossing{}
			var places []int64
			for _, c := range crossings {
				if c.over == over && c.under == under {
					found[c.place.at] = c
					places = append(places, c.place.at)
				}
			}
			if got := impl.OverlapsIn(sys, over, under); !slices.Equal(got, places) {
				t.Fatal(sys, over, under, got, places)
			}
			for at := int64(-1); at <= 62; at++ {
				got, is := impl.PeakAt(sys, over, at, under)
				if is != found[at].fits || !equalPeaks(got, found[at].peak()) {
					t.Fatal(sys, over, at, under, got, is, found[at].peak())
				}
			}
		}
	}
}

// A peakCase is a system with all the peaks that it has.
type peakCase struct {
	name string
	sys  impl.System
	want []impl.Peak
}

func TestExamplesOfPeaks(t *testing.T) {
	sys := bookOf(assoc()).system()
	top := impl.Peak{Top: []int64{0, 0, 0, -1, -2, -3, -4}, Left: []int64{0, 0, -1, 0, -2, -3, -4}, Right: []int64{0, 0, -1, -2, 0, -3, -4}, At: 1}
	if got := impl.OverlapsIn(sys, 0, 0); !slices.Equal(got, []int64{1}) {
		t.Error("OverlapsIn", got)
	}
	if got, is := impl.PeaksOf(sys); !is || len(got) != 1 || !equalPeaks(got[0], top) {
		t.Error("PeaksOf", got, is)
	}
	if !impl.SamePeak(top, clonePeak(top)) || impl.TrivialPeak(top) || !impl.PeakOk(sys, top) {
		t.Error("SamePeak, TrivialPeak, PeakOk")
	}
	changed := clonePeak(top)
	changed.Left = changed.Right
	if impl.PeakOk(sys, changed) || !impl.TrivialPeak(changed) || impl.SamePeak(top, changed) {
		t.Error("PeakOk", changed)
	}
	got, is := impl.PeakUnder(sys, top, substOf([]int64{2}, []int64{1, 2}))
	want := impl.Peak{Top: []int64{0, 0, 0, 2, 1, 2, -3, -4}, Left: []int64{0, 0, 2, 0, 1, 2, -3, -4}, Right: []int64{0, 0, 2, 1, 2, 0, -3, -4}, At: 1}
	if !is || !equalPeaks(got, want) {
		t.Error("PeakUnder", got, is)
	}
	twice := impl.Peak{Top: []int64{1, 1, 1, -1}, Left: []int64{1, -1}, Right: []int64{1, -1}, At: 1}
	if got, is := impl.PeakAt(bookOf(undo()).system(), 0, 1, 0); !is || !equalPeaks(got, twice) || !impl.TrivialPeak(got) {
		t.Error("PeakAt", got, is)
	}
	roots := impl.RootPeaks(bookOf(first(), second()).system())
	if want := (impl.Peak{Top: []int64{0, -1, -2}, Left: []int64{-2}, Right: []int64{-1}, Under: 1}); len(roots) != 2 || !equalPeaks(roots[0], want) {
		t.Error("RootPeaks", roots)
	}
}

func TestPeaks(t *testing.T) {
	cases := []peakCase{
		{"no rules", systemOf(), nil},
		{"no overlap", sums(), nil},
		{"a rule with itself at position 0", systemOf([]int64{0, -1, -2}, []int64{0, -2, -1}), nil},
		{"a rule with itself at the position of a variable", systemOf([]int64{1, -1}, []int64{2}), nil},
		{"a rule with itself at another position", systemOf([]int64{1, 1, -1}, []int64{2}), []impl.Peak{
			{Top: []int64{1, 1, 1, -1}, Left: []int64{1, 2}, Right: []int64{2}, At: 1},
		}},
		{"two different rules at position 0", systemOf([]int64{1, -1}, []int64{2}, []int64{1, 2}, []int64{1, 1, 2}), []impl.Peak{
			{Top: []int64{1, 2}, Left: []int64{1, 1, 2}, Right: []int64{2}, Under: 1},
			{Top: []int64{1, 2}, Left: []int64{2}, Right: []int64{1, 1, 2}, Over: 1},
		}},
		// Two rules with the same sides are two rules all the same.
		{"the same rule twice", systemOf([]int64{1, -5}, []int64{-5}, []int64{1, -5}, []int64{-5}), []impl.Peak{
			{Top: []int64{1, -1}, Left: []int64{-1}, Right: []int64{-1}, Under: 1},
			{Top: []int64{1, -1}, Left: []int64{-1}, Right: []int64{-1}, Over: 1},
		}},
		{"a constant", systemOf([]int64{2}, []int64{1, 2}, []int64{0, 2, 2}, []int64{2}), []impl.Peak{
			{Top: []int64{0, 2, 2}, Left: []int64{0, 1, 2, 2}, Right: []int64{2}, At: 1, Over: 1},
			{Top: []int64{0, 2, 2}, Left: []int64{0, 2, 1, 2}, Right: []int64{2}, At: 2, Over: 1},
		}},
		// The x0 of the one rule is not the x0 of the other one.
		{"a variable that both rules have", systemOf([]int64{0, 1, -1, -1}, []int64{-1}, []int64{1, 1, -1}, []int64{0, -1, 2}), []impl.Peak{
			{Top: []int64{0, 1, 1, -1, 1, -1}, Left: []int64{0, 0, -1, 2, 1, -1}, Right: []int64{1, -1}, At: 1, Under: 1},
			{Top: []int64{1, 1, 1, -1}, Left: []int64{1, 0, -1, 2}, Right: []int64{0, 1, -1, 2}, At: 1, Under: 1, Over: 1},
		}},
		{"a variable that would be inside itself", systemOf([]int64{0, -1, 1, -1}, []int64{2}, []int64{0, 1, -1, -1}, []int64{2}), nil},
		{"a variable that would be inside itself, were it not two", systemOf([]int64{1, 0, -1, -2}, []int64{2}, []int64{0, -2, 1, -1}, []int64{-1}), []impl.Peak{
			{Top: []int64{1, 0, -1, 1, -2}, Left: []int64{1, -2}, Right: []int64{2}, At: 1, Under: 1},
			{Top: []int64{0, -1, 1, 0, -2, -3}, Left: []int64{0, -1, 2}, Right: []int64{0, -2, -3}, At: 2, Over: 1},
		}},
		{"the position in Top is not the one in the left side", systemOf([]int64{0, -1, 1, -1}, []int64{-1}, []int64{1, 1, -1}, []int64{-1}), []impl.Peak{
			{Top: []int64{0, 1, -1, 1, 1, -1}, Left: []int64{0, 1, -1, -1}, Right: []int64{1, -1}, At: 2, Under: 1},
			{Top: []int64{1, 1, 1, -1}, Left: []int64{1, -1}, Right: []int64{1, -1}, At: 1, Under: 1, Over: 1},
		}},
		{"Left is shorter than the left side", systemOf([]int64{1, 0, -1, -2}, []int64{2}, []int64{0, -1, 1, 2}, []int64{-1}), []impl.Peak{
			{Top: []int64{1, 0, -1, 1, 2}, Left: []int64{1, -1}, Right: []int64{2}, At: 1, Under: 1},
		}},
	}
	for _, c := range cases {
		got, is := impl.PeaksOf(c.sys)
		if !is || !slices.EqualFunc(got, c.want, equalPeaks) {
			t.Error(c.name, got, is)
		}
	}
}

// Variables are numbered as Top comes to them, also if another term comes to
// them in another order or one of the rules has other numbers for them.
func TestVariablesOfAPeak(t *testing.T) {
	cases := []peakCase{
		{"Left and Right the other way round", systemOf([]int64{1, 0, -1, -2}, []int64{0, -2, -1}, []int64{0, -2, -1}, []int64{0, -1, -2}), []impl.Peak{
			{Top: []int64{1, 0, -1, -2}, Left: []int64{1, 0, -2, -1}, Right: []int64{0, -2, -1}, At: 1, Under: 1},
		}},
		{"a variable of each rule alone", systemOf([]int64{0, 1, -9, -3}, []int64{0, -3, 1, -9}, []int64{1, 0, -7, -3}, []int64{0, -3, -7}), []impl.Peak{
			{Top: []int64{0, 1, 0, -1, -2, -3}, Left: []int64{0, 0, -2, -1, -3}, Right: []int64{0, -3, 1, 0, -1, -2}, At: 1, Under: 1},
			{Top: []int64{1, 0, 1, -1, -2}, Left: []int64{1, 0, -2, 1, -1}, Right: []int64{0, -2, 1, -1}, At: 1, Over: 1},
		}},
		{"the variable of the rule over comes first", systemOf([]int64{0, -24, 1, -1}, []int64{0, -1, -24}, []int64{1, 0, -24, -1}, []int64{0, -1, -24}), []impl.Peak{
			{Top: []int64{0, -1, 1, 0, -2, -3}, Left: []int64{0, -1, 0, -3, -2}, Right: []int64{0, 0, -2, -3, -1}, At: 2, Under: 1},
			{Top: []int64{1, 0, -1, 1, -2}, Left: []int64{1, 0, -2, -1}, Right: []int64{0, 1, -2, -1}, At: 1, Over: 1},
		}},
		{"two variables become one", systemOf([]int64{1, 0, -2, -1}, []int64{0, -1, -2}, []int64{0, -13, -13}, []int64{-13}), []impl.Peak{
			{Top: []int64{1, 0, -1, -1}, Left: []int64{1, -1}, Right: []int64{0, -1, -1}, At: 1, Under: 1},
		}},
		{"Left and Right are variables", systemOf([]int64{0, -8, -3}, []int64{-3}, []int64{0, -3, -8}, []int64{-3}), []impl.Peak{
			{Top: []int64{0, -1, -2}, Left: []int64{-1}, Right: []int64{-2}, Under: 1},
			{Top: []int64{0, -1, -2}, Left: []int64{-2}, Right: []int64{-1}, Over: 1},
		}},
	}
	for _, c := range cases {
		got, is := impl.PeaksOf(c.sys)
		if !is || !slices.EqualFunc(got, c.want, equalPeaks) {
			t.Error(c.name, got, is)
		}
	}
}

func TestOverlapsAtVariables(t *testing.T) {
	sys := systemOf([]int64{0, 1, -1, -2}, []int64{2}, []int64{1, -1}, []int64{2}, []int64{2}, []int64{1, 2})
	for over, want := range [][3][]int64{{nil, {1}, nil}, {nil, nil, nil}, {nil, nil, nil}} {
		for under := range want {
			if got := impl.OverlapsIn(sys, int64(over), int64(under)); !slices.Equal(got, want[under]) {
				t.Error(over, under, got)
			}
		}
	}
	for _, at := range []int64{2, 3, 4} {
		for under := range int64(3) {
			if p, is := impl.PeakAt(sys, 0, at, under); is || !isZeroPeak(p) {
				t.Error(at, under, p)
			}
		}
	}
}

// Several positions are told in ascending order.
func TestOverlapsAtManyPositions(t *testing.T) {
	for high := 1; high <= 30; high++ {
		sys := bookOf(ruling{tower(high, variable(3)), tree{head: 2}}, ruling{tower(2, variable(3)), variable(3)}).system()
		if got := impl.OverlapsIn(sys, 0, 0); !slices.Equal(got, everyPlace(int64(high))[1:]) {
			t.Error(high, got)
		}
		if got := impl.OverlapsIn(sys, 0, 1); !slices.Equal(got, everyPlace(int64(high))) {
			t.Error(high, got)
		}
	}
	sys := systemOf([]int64{0, 0, 2, 1, 2, 0, 1, 1, -1, 2}, []int64{2}, []int64{0, -1, -2}, []int64{-1}, []int64{1, -1}, []int64{2}, []int64{2}, []int64{1, 2})
	for under, want := range [][]int64{{}, {0, 1, 5}, {3, 6, 7}, {2, 4, 9}} {
		if got := impl.OverlapsIn(sys, 0, int64(under)); !slices.Equal(got, want) {
			t.Error(under, got)
		}
	}
}

func TestPeaksOfBooks(t *testing.T) {
	for _, b := range append(peakBooks(), longBooks()...) {
		checkPeaks(t, b)
	}
	for _, b := range booksOf(abc(), someRulings(), 2) {
		checkPeaks(t, b)
	}
}

// All pairs of small left sides. The right side has every variable, in another
// order.
func TestPeaksOfSmallRules(t *testing.T) {
	var rulings []ruling
	for _, l := range smallTrees([]int64{-1, -24}, 4) {
		if l.head >= 0 {
			rulings = append(rulings, ruling{l, onOne(l.mirrored())})
		}
	}
	some := 0
	for _, x := range rulings {
		for _, y := range rulings {
			some += len(checkPeaks(t, bookOf(x, y)))
		}
	}
	if some < 2500 {
		t.Error("too few of the pairs test much", some)
	}
}

func TestPeaksOfLongRules(t *testing.T) {
	m, fit, tooLong, none := makerOf(40), 0, 0, 0
	for range 150 {
		b := m.crossed(4)
		crossings := checkPeaks(t, b)
		if len(crossings) == 0 {
			none++
		}
		for _, c := range crossings {
			if c.fits {
				fit++
			} else {
				tooLong++
			}
		}
	}
	if fit < 400 || tooLong < 30 || none < 30 {
		t.Error("too few of the rules test much", fit, tooLong, none)
	}
	for range 6 {
		checkPeaks(t, m.book())
		checkPeaks(t, m.crossed(impl.MaxRules))
	}
}
