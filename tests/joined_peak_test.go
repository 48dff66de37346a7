package tests

import (
	"slices"
	"testing"

	"loop.example/g00895/impl"
)

// checkJoinedPeak checks whether a peak is joined, and that it is by two rewrite
// sequences from its sides to one term.
func checkJoinedPeak(t *testing.T, b book, c crossing, steps int64) bool {
	t.Helper()
	sys := b.system()
	v, w, is := impl.JoinedPeak(sys, c.peak(), steps)
	there, back, does := b.joining(c, steps)
	if is != does || !is && !(isZeroWalk(v) && isZeroWalk(w)) {
		t.Fatal(sys, c.peak(), steps, v, w, is)
	}
	if !is {
		return false
	}
	if !equalWalks(v, there.walk()) || !equalWalks(w, back.walk()) {
		t.Fatal(sys, c.peak(), steps, v, w)
	}
	checkSequence(t, sys, c.left.notation(), endOfSteps(w), v, steps)
	checkSequence(t, sys, c.right.notation(), endOfSteps(v), w, steps)
	return true
}

// checkUnjoined checks what the functions say of the peaks of a book, and returns
// how many of them are joined and how many are not.
func checkUnjoined(t *testing.T, b book, crossings []crossing, steps int64) (joined, not int) {
	t.Helper()
	sys := b.system()
	var open []impl.Peak
	for _, c := range crossings {
		if c.fits && checkJoinedPeak(t, b, c, steps) {
			joined++
		} else {
			open = append(open, c.peak())
		}
	}
	if _, are := peaksOf(crossings); !are {
		checkNoUnjoined(t, sys, steps)
		return 0, 0
	}
	if got := impl.UnjoinedOf(sys, steps); !slices.EqualFunc(got, open, equalPeaks) {
		t.Fatal(sys, steps, got)
	}
	if got := impl.JoinsAll(sys, steps); got != (len(open) == 0) {
		t.Fatal(sys, steps, got)
	}
	return joined, len(open)
}

// checkNoUnjoined checks that the functions on all peaks return their zero values.
func checkNoUnjoined(t *testing.T, sys impl.System, steps int64) {
	t.Helper()
	if open := impl.UnjoinedOf(sys, steps); len(open) != 0 || impl.JoinsAll(sys, steps) {
		t.Fatal(sys, steps, open)
	}
}

func TestExamplesOfJoinedPeaks(t *testing.T) {
	sys := bookOf(assoc()).system()
	peaks, _ := impl.PeaksOf(sys)
	met := []int64{0, -1, 0, -2, 0, -3, -4}
	left := walkOf(peaks[0].Left, impl.Step{At: 0, To: []int64{0, -1, 0, 0, -2, -3, -4}}, impl.Step{At: 2, To: met})
	right := walkOf(peaks[0].Right, impl.Step{At: 0, To: met})
	for _, steps := range someDepths(0) {
		v, w, is := impl.JoinedPeak(sys, peaks[0], steps)
		open := impl.UnjoinedOf(sys, steps)
		if steps < 2 {
			if is || !isZeroWalk(v) || !isZeroWalk(w) || !slices.EqualFunc(open, peaks, equalPeaks) || impl.JoinsAll(sys, steps) {
				t.Error(steps, v, w, is, open)
			}
			continue
		}
		if !is || !equalWalks(v, left) || !equalWalks(w, right) || len(open) != 0 || !impl.JoinsAll(sys, steps) {
			t.Error(steps, v, w, is, open)
		}
	}
}

// Exactly the number of steps by which all peaks are joined, and one fewer.
func TestStepsOfClosings(t *testing.T) {
	for _, x := range closings() {
		sys, crossings := x.system(), x.b.crossings()
		for _, steps := range []int64{0, 1, 2, 3, 6, 7, 8} {
			checkUnjoined(t, x.b, crossings, steps)
			if want := x.all >= 0 && steps >= x.all; impl.JoinsAll(sys, steps) != want {
				t.Error(x.name, steps)
			}
		}
		for _, steps := range someDepths(0) {
			if want := x.all >= 0 && steps >= x.all; impl.JoinsAll(sys, steps) != want || (len(impl.UnjoinedOf(sys, steps)) == 0) != want {
				t.Error(x.name, steps)
			}
		}
		for _, steps := range noDepths() {
			checkNoUnjoined(t, sys, steps)
		}
	}
}

// The longer one of the two walks counts, also if it has as many steps as MaxDeep.
func TestStepsOfEachSide(t *testing.T) {
	sig := impl.Sig{Arity: []int64{2, 1, 0, 1, 0}}
	x := tree{head: 4}
	for left := range int64(23) {
		for right := range int64(23) {
			one, two := tower(int(right), x), x
			for range left {
				two = tree{head: 3, args: []tree{two}}
			}
			sys := book{sig, []ruling{{tree{head: 2}, one}, {tree{head: 2}, two}, shrink(), {tree{head: 3, args: []tree{variable(0)}}, variable(0)}}}.system()
			p := impl.Peak{Top: []int64{2}, Left: two.notation(), Right: one.notation(), Under: 1}
			most := max(left, right)
			for _, steps := range []int64{most - 1, most, most + 1, 20} {
				is := steps >= most && steps >= 0 && steps <= 20
				v, w, does := impl.JoinedPeak(sys, p, steps)
				if does != is || is && (len(v.Steps) != int(left) || len(w.Steps) != int(right)) || !is && !(isZeroWalk(v) && isZeroWalk(w)) {
					t.Fatal(left, right, steps, v, w, does)
				}
				if impl.JoinsAll(sys, steps) != is {
					t.Fatal(left, right, steps)
				}
				open := impl.UnjoinedOf(sys, steps)
				if want := !is && steps >= 0 && steps <= 20; (len(open) == 2) != want || want && !equalPeaks(open[0], p) || !want && len(open) != 0 {
					t.Fatal(left, right, steps, open)
				}
			}
		}
	}
}

// A trivial peak is joined by no steps, and any other one by some.
func TestTrivialPeaksAreJoined(t *testing.T) {
	trivial, not := 0, 0
	for _, b := range append(peakBooks(), towersOf(20), towersOf(3, 4, 2), bookOf(double(), double())) {
		sys := b.system()
		for _, c := range b.crossings() {
			v, w, is := impl.JoinedPeak(sys, c.peak(), 0)
			if is != c.left.isSame(c.right) || is != impl.TrivialPeak(c.peak()) {
				t.Fatal(sys, c.peak(), v, w, is)
			}
			if !is {
				not++
				continue
			}
			trivial++
			for _, steps := range []int64{0, 1, 5} {
				v, w, is := impl.JoinedPeak(sys, c.peak(), steps)
				if !is || !equalWalks(v, resting(c.left.notation())) || !equalWalks(w, v) {
					t.Fatal(sys, c.peak(), steps, v, w, is)
				}
			}
		}
	}
	if trivial < 30 || not < 50 {
		t.Error("too few of the peaks test much", trivial, not)
	}
}

func TestJoinedPeaksOfBooks(t *testing.T) {
	joined, not := 0, 0
	for _, b := range append(peakBooks(), longBooks()...) {
		crossings := b.crossings()
		for _, steps := range []int64{0, 1, 2, 4} {
			some, others := checkUnjoined(t, b, crossings, steps)
			joined, not = joined+some, not+others
		}
	}
	for _, b := range booksOf(abc(), someRulings(), 2) {
		some, others := checkUnjoined(t, b, b.crossings(), 2)
		joined, not = joined+some, not+others
	}
	if joined < 250 || not < 250 {
		t.Error("too few of the peaks test much", joined, not)
	}
}

// All pairs of rules with small sides.
func TestJoinedPeaksOfShortRules(t *testing.T) {
	joined, not := 0, 0
	rulings := shortRulings()
	for i, x := range rulings {
		for j, y := range rulings {
			if (i+j)%3 > 0 {
				continue
			}
			b := bookOf(x, y)
			some, others := checkUnjoined(t, b, b.crossings(), int64(i)%4)
			joined, not = joined+some, not+others
		}
	}
	if joined < 1000 || not < 1000 {
		t.Error("too few of the peaks test much", joined, not)
	}
}

func TestJoinedPeaksOfLongRules(t *testing.T) {
	m, joined, not := makerOf(50), 0, 0
	for range 80 {
		b := m.crossed(3)
		some, others := checkUnjoined(t, b, b.crossings(), m.Int64N(3))
		joined, not = joined+some, not+others
	}
	if joined < 20 || not < 20 {
		t.Error("too few of the peaks test much", joined, not)
	}
}

// Peaks that PeakOk accepts, though they are not most general.
func TestJoinedPeaksThatAreNotMostGeneral(t *testing.T) {
	m, joined, not := makerOf(51), 0, 0
	for i := range 200 {
		b := peakBooks()[i%len(peakBooks())]
		crossings := b.crossings()
		c, f := crossings[m.IntN(len(crossings))], filling{}
		for _, j := range c.top.varSet() {
			f[j] = m.tree(b.sig, 1+m.Int64N(5))
		}
		d := c.filled(f)
		if !d.fits || !impl.PeakOk(b.system(), d.peak()) {
			t.Fatal(b.system(), c.peak(), f)
		}
		if checkJoinedPeak(t, b, d, m.Int64N(4)) {
			joined++
		} else {
			not++
		}
	}
	if joined < 50 || not < 50 {
		t.Error("too few of the peaks test much", joined, not)
	}
	// An instance of a peak that is not joined may be joined.
	sys := bookOf(first(), second()).system()
	if v, w, is := impl.JoinedPeak(sys, impl.Peak{Top: []int64{0, 2, 2}, Left: []int64{2}, Right: []int64{2}, Under: 1}, 0); !is || !equalWalks(v, resting([]int64{2})) || !equalWalks(v, w) {
		t.Error(v, w, is)
	}
	if open := impl.UnjoinedOf(sys, 20); len(open) != 2 || !slices.Equal(open[0].Top, []int64{0, -1, -2}) {
		t.Error(open)
	}
}

// A peak that is none of the system is not joined, though its sides are.
func TestJoinedPeaksThatAreNoPeaks(t *testing.T) {
	m, refused := makerOf(52), 0
	for _, b := range peakBooks()[:8] {
		sys := b.system()
		for _, c := range b.crossings() {
			for _, other := range b.changed(c) {
				if other.over >= 0 && other.over < int64(len(b.list)) {
					other.place = b.placeOf(other.over, other.place.at)
				}
				if m.IntN(4) > 0 {
					continue
				}
				p := impl.Peak{Top: other.top.notation(), Left: other.left.notation(), Right: other.right.notation(), At: other.place.at, Under: other.under, Over: other.over}
				v, w, is := impl.JoinedPeak(sys, p, 2)
				joins := impl.JoinsIn(sys, p.Left, p.Right, 2)
				if is != (b.accepts(other) && joins) || !is && !(isZeroWalk(v) && isZeroWalk(w)) {
					t.Fatal(sys, p, v, w, is)
				}
				if joins && !is {
					refused++
				}
			}
		}
	}
	if refused < 500 {
		t.Error("too few of the peaks test much", refused)
	}
}

// The terms that ReachOf leaves out do not count.
func TestPeaksOfCrowdedSystems(t *testing.T) {
	for high := 17; high <= 20; high++ {
		sys := crowded(high, 4, 1)
		peaks, is := impl.PeaksOf(sys)
		if !is || len(peaks) != 8 {
			t.Fatal(peaks)
		}
		for i, p := range peaks[6:] {
			v, w, is := impl.JoinedPeak(sys, p, 20)
			if is != (high <= 18) || is && len(v.Steps)+len(w.Steps) != high+1 || is && len(v.Steps) != i*(high+1) || !is && !(isZeroWalk(v) && isZeroWalk(w)) {
				t.Error(high, v, w, is)
			}
		}
		open := impl.UnjoinedOf(sys, 20)
		if len(open) != 6 && high <= 18 || len(open) != 8 && high > 18 || !slices.EqualFunc(open, peaks[:len(open)], equalPeaks) {
			t.Error(high, open)
		}
		if impl.JoinsAll(sys, 20) {
			t.Error(high)
		}
	}
}

// Too many overlaps, or one without a peak. With exactly MaxPeaks there are peaks.
func TestUnjoinedPeaksUpToTheLimit(t *testing.T) {
	for size := range 13 {
		sys := many(size, []int64{2}, []int64{1, 2})
		for _, steps := range []int64{0, 20, 21} {
			if got := impl.JoinsAll(sys, steps); got != (size <= 8 && steps <= 20) || len(impl.UnjoinedOf(sys, steps)) != 0 {
				t.Error(size, steps, got)
			}
		}
	}
	for three := 1; three <= 6; three++ {
		b := growers(4, 28, three)
		sys, crossings := b.system(), b.crossings()
		if got, want := impl.JoinsAll(sys, 1), len(crossings) <= 64; got != want || want != (three <= 3) {
			t.Error(three, got)
		}
		if got := impl.UnjoinedOf(sys, 0); (len(got) > 0) != (three <= 3) || impl.JoinsAll(sys, 0) {
			t.Error(three, got)
		}
		if three == 3 || three == 4 {
			checkUnjoined(t, b, crossings, 0)
		}
	}
	// No more than one overlap is without a peak.
	for high := 28; high <= 33; high++ {
		sys := towersOf(high).system()
		if got := impl.JoinsAll(sys, 0); got != (high <= 30) || len(impl.UnjoinedOf(sys, 0)) != 0 {
			t.Error(high, got)
		}
	}
	for steps := int64(2); steps <= 8; steps++ {
		rulings := doubling(steps)
		b := bookOf(rulings[:]...)
		checkUnjoined(t, b, b.crossings(), 2)
	}
}

// checkUnjoinedByChapters checks which peaks are not joined against what the other
// functions of the document tell.
func checkUnjoinedByChapters(t *testing.T, sys impl.System, steps int64) {
	t.Helper()
	peaks, are := impl.PeaksOf(sys)
	isJoined := func(p impl.Peak) bool {
		v, w, is := impl.JoinedPeak(sys, p, steps)
		if is && (!impl.WalkOk(sys, v) || !impl.WalkOk(sys, w) || !slices.Equal(impl.EndTerm(sys, v), impl.EndTerm(sys, w))) {
			t.Fatal(sys, p, steps, v, w)
		}
		if is != impl.JoinsIn(sys, p.Left, p.Right, steps) {
			t.Fatal(sys, p, steps, is)
		}
		return is
	}
	open := impl.UnjoinedOf(sys, steps)
	want := slices.DeleteFunc(slices.Clone(peaks), isJoined)
	if !slices.EqualFunc(open, want, equalPeaks) || impl.JoinsAll(sys, steps) != (are && len(open) == 0) {
		t.Fatal(sys, steps, open)
	}
}

func TestUnjoinedPeaksByChapters(t *testing.T) {
	m := makerOf(53)
	for _, x := range closings() {
		for _, steps := range []int64{0, 1, 5, 20} {
			checkUnjoinedByChapters(t, x.system(), steps)
		}
	}
	for range 40 {
		checkUnjoinedByChapters(t, m.anyBook().system(), m.Int64N(4))
		checkUnjoinedByChapters(t, m.crossed(impl.MaxRules).system(), m.Int64N(4))
	}
	for range 200 {
		rulings := shortRulings()
		b := bookOf()
		for range 1 + m.IntN(4) {
			b.list = append(b.list, rulings[m.IntN(len(rulings))])
		}
		checkUnjoinedByChapters(t, b.system(), m.Int64N(6))
	}
}
