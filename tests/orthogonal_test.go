package tests

import (
	"testing"

	"loop.example/g00895/impl"
)

// verdictOf returns what the functions tell of a system.
func verdictOf(sys impl.System) verdict {
	return verdict{impl.OrthogonalIn(sys), impl.WeaklyIn(sys), impl.ClosedIn(sys)}
}

// checkVerdict checks which of the criteria a book meets, and that each one that is
// met implies the next one.
func checkVerdict(t *testing.T, b book) verdict {
	t.Helper()
	sys, want := b.system(), b.verdict(b.crossings())
	got := verdictOf(sys)
	if got != want {
		t.Fatal(sys, got, want)
	}
	if got.orthogonal && !got.weakly || got.weakly && !got.closed {
		t.Fatal(sys, got)
	}
	return got
}

func TestExamplesOfVerdicts(t *testing.T) {
	cases := []struct {
		sys  impl.System
		want verdict
	}{
		{sums(), verdict{true, true, true}},
		{bookOf(assoc()).system(), verdict{}},
		{bookOf(undo()).system(), verdict{weakly: true, closed: true}},
	}
	for i, c := range cases {
		if got := verdictOf(c.sys); got != c.want {
			t.Error(i, got)
		}
	}
}

func TestVerdicts(t *testing.T) {
	for _, x := range closings() {
		if got := checkVerdict(t, x.b); got != x.want {
			t.Error(x.name, got)
		}
	}
}

// The order of the rules changes which of the peaks are first, but no verdict.
func TestVerdictsOfOtherOrders(t *testing.T) {
	for _, x := range closings() {
		for shift := range x.b.list {
			b := book{sig: x.b.sig}
			for i := range x.b.list {
				b.list = append(b.list, x.b.list[(i+shift)%len(x.b.list)])
			}
			if got := checkVerdict(t, b); got != x.want {
				t.Error(x.name, shift, got)
			}
		}
	}
}

// Left must reduce in parallel to Right, and it is not enough that Right does to
// Left.
func TestPeaksThatAreClosedOneWay(t *testing.T) {
	c, d, e := tree{head: 2}, tree{head: 3}, tree{head: 4}
	for _, there := range []bool{true, false} {
		last := ruling{onOne(e), d}
		if !there {
			last = ruling{d, onOne(e)}
		}
		b := book{five(), []ruling{{onOne(c), d}, {c, e}, last}}
		sys := b.system()
		peaks, is := impl.PeaksOf(sys)
		if !is || len(peaks) != 1 {
			t.Fatal(peaks)
		}
		left, right := peaks[0].Left, peaks[0].Right
		if impl.ParallelTo(sys, left, right) != there || impl.ParallelTo(sys, right, left) == there || impl.ClosedIn(sys) != there || impl.WeaklyIn(sys) {
			t.Error(there, peaks)
		}
	}
}

func TestVerdictsOfBooks(t *testing.T) {
	for _, b := range append(peakBooks(), longBooks()...) {
		checkVerdict(t, b)
	}
	for _, b := range append(endingBooks(), booksOf(abc(), append(someRulings(), swap()), 2)...) {
		checkVerdict(t, b)
	}
}

// All pairs of rules with small sides.
func TestVerdictsOfShortRules(t *testing.T) {
	counts := map[verdict]int{}
	rulings := shortRulings()
	for i, x := range rulings {
		for j, y := range rulings {
			if (i+j)%2 == 0 {
				counts[checkVerdict(t, bookOf(x, y))]++
			}
		}
	}
	if counts[verdict{true, true, true}] < 300 || counts[verdict{false, true, true}] < 30 || counts[verdict{false, false, true}] < 10 || counts[verdict{}] < 1000 {
		t.Error("too few of the rules test much", counts)
	}
}

func TestVerdictsOfLongRules(t *testing.T) {
	m, counts := makerOf(56), map[verdict]int{}
	for i := range 150 {
		if i%6 == 0 {
			counts[checkVerdict(t, m.book())]++
		}
		counts[checkVerdict(t, m.crossed(2))]++
		counts[checkVerdict(t, book{wide(), []ruling{m.linear(wide()), m.linear(wide())}})]++
	}
	if counts[verdict{true, true, true}] < 30 || counts[verdict{}] < 100 {
		t.Error("too few of the rules test much", counts)
	}
}

// linear returns a rule with a long left side in which no variable is twice.
func (m maker) linear(sig impl.Sig) ruling {
	x := m.ruling(sig)
	for i, s := range x.l.spots() {
		if s.sub.head < 0 {
			x.l = x.l.put(s.path, variable(int64(i)))
		}
	}
	return m.rulingOf(sig, x.l)
}

// Too many overlaps, or one without a peak. The peaks are all trivial.
func TestVerdictsUpToTheLimit(t *testing.T) {
	weakly := verdict{weakly: true, closed: true}
	for high := 1; high <= 40; high++ {
		want := verdict{}
		if high <= 30 {
			want = weakly
			want.orthogonal = high == 1
		}
		if got := verdictOf(towersOf(high).system()); got != want {
			t.Error(high, got)
		}
	}
	for third := 1; third <= 12; third++ {
		want := verdict{}
		if third <= 7 {
			want = weakly
		}
		if got := verdictOf(towersOf(30, 30, third).system()); got != want {
			t.Error(third, got)
		}
	}
	for size := range 13 {
		want := verdict{}
		if size <= 8 {
			want = weakly
			want.orthogonal = size <= 1
		}
		if got := verdictOf(many(size, []int64{1, -1}, []int64{2})); got != want {
			t.Error(size, got)
		}
	}
	for steps := int64(2); steps <= 6; steps++ {
		rulings := doubling(steps)
		checkVerdict(t, bookOf(rulings[:]...))
	}
}

// MaxRules rules without a peak, or with some.
func TestVerdictsOfManyRules(t *testing.T) {
	for size := range 13 {
		var list []ruling
		for i := range size {
			list = append(list, ruling{onTwo(tower(i, tree{head: 2}), variable(0)), variable(0)})
		}
		if got := checkVerdict(t, bookOf(list...)); got != (verdict{true, true, true}) {
			t.Error(size, got)
		}
		if size == impl.MaxRules {
			break
		}
		if got := checkVerdict(t, bookOf(append(list, assoc())...)); got != (verdict{}) {
			t.Error(size, got)
		}
		// Where a tower of two or more loses two, another one of these rules fits.
		if got := checkVerdict(t, bookOf(append(list, undo())...)); got != (verdict{weakly: size <= 2, closed: true}) {
			t.Error(size, got)
		}
	}
	if got := verdictOf(many(13, []int64{0, 1, -1, -2}, []int64{-1})); got != (verdict{}) {
		t.Error(got)
	}
}
