package tests

import (
	"slices"
	"testing"

	"loop.example/g00895/impl"
)

// checkSplit checks the peak with two normal forms, or that there is none.
func checkSplit(t *testing.T, sys impl.System, steps int64, want parting, is bool) {
	t.Helper()
	p, left, right, does := impl.SplitOf(sys, steps)
	if does != is || !equalPeaks(p, want.peak) || !slices.Equal(left, want.left) || !slices.Equal(right, want.right) {
		t.Fatal(sys, steps, p, left, right, does, want)
	}
	if is {
		checkTwoNormalForms(t, sys, steps, want)
	}
}

// checkTwoNormalForms checks that the two terms are normal forms that are reached
// from the sides of a peak, and that nothing joins them.
func checkTwoNormalForms(t *testing.T, sys impl.System, steps int64, x parting) {
	t.Helper()
	if !impl.PeakOk(sys, x.peak) || !impl.NormalIn(sys, x.left) || !impl.NormalIn(sys, x.right) || slices.Equal(x.left, x.right) {
		t.Fatal(sys, steps, x)
	}
	for _, side := range [][2][]int64{{x.peak.Left, x.left}, {x.peak.Right, x.right}} {
		w, is := impl.WalkTo(sys, side[0], side[1], steps)
		if !is {
			t.Fatal(sys, steps, x, side)
		}
		checkSequence(t, sys, side[0], side[1], w, steps)
	}
	checkNoJoin(t, sys, x.left, x.right, 20)
	if got := verdictOf(sys); got != (verdict{}) {
		t.Fatal(sys, x, got)
	}
}

// checkSplitOf checks what is expected of a book, and reports whether there is such
// a peak.
func checkSplitOf(t *testing.T, b book, crossings []crossing, steps int64) bool {
	t.Helper()
	want, is := b.parting(crossings, steps)
	checkSplit(t, b.system(), steps, want, is)
	return is
}

func TestExamplesOfSplits(t *testing.T) {
	sys := bookOf(first(), ruling{onTwo(variable(0), variable(1)), variable(1)}).system()
	p := impl.Peak{Top: []int64{0, -1, -2}, Left: []int64{-2}, Right: []int64{-1}, Under: 1}
	for _, steps := range someDepths(0) {
		checkSplit(t, sys, steps, parting{p, []int64{-2}, []int64{-1}}, true)
		checkSplit(t, bookOf(assoc()).system(), steps, parting{}, false)
		checkSplit(t, sums(), steps, parting{}, false)
		checkSplit(t, systemOf(), steps, parting{}, false)
	}
}

// forked is a system in which f2 becomes f4 by the rule over and f3 by the rule
// under, and each of these becomes all of its normal forms.
func forked(lefts, rights []int64) impl.System {
	sides := [][]int64{{2}, {4}, {2}, {3}}
	for _, n := range lefts {
		sides = append(sides, []int64{3}, []int64{n})
	}
	for _, n := range rights {
		sides = append(sides, []int64{4}, []int64{n})
	}
	return impl.System{Sig: impl.Sig{Arity: []int64{2, 1, 0, 0, 0, 0, 0, 0}}, Rules: rulesOf(sides)}
}

// Of several normal forms of a side the first one counts that differs from one of
// the other side.
func TestSplitsWithSeveralNormalForms(t *testing.T) {
	cases := []struct {
		lefts, rights []int64
		left, right   int64
	}{
		{[]int64{5}, []int64{6}, 5, 6},
		{[]int64{6}, []int64{5}, 6, 5},
		{[]int64{5}, []int64{5, 6}, 5, 6},
		{[]int64{6}, []int64{5, 6}, 6, 5},
		{[]int64{5}, []int64{6, 5}, 5, 6},
		{[]int64{5, 6}, []int64{5}, 6, 5},
		{[]int64{6, 5}, []int64{5}, 6, 5},
		{[]int64{5, 6}, []int64{6}, 5, 6},
		{[]int64{5, 6}, []int64{5, 6}, 5, 6},
		{[]int64{5, 6}, []int64{6, 5}, 5, 6},
		{[]int64{6, 5}, []int64{5, 6}, 6, 5},
		{[]int64{7}, []int64{5, 6}, 7, 5},
		{[]int64{5, 6, 7}, []int64{5}, 6, 5},
		{[]int64{5, 6, 7}, []int64{7, 6, 5}, 5, 7},
		{[]int64{5}, []int64{5, 5, 7, 6}, 5, 7},
	}
	for _, c := range cases {
		p := impl.Peak{Top: []int64{2}, Left: []int64{3}, Right: []int64{4}, Under: 1}
		for _, steps := range someDepths(1) {
			checkSplit(t, forked(c.lefts, c.rights), steps, parting{p, []int64{c.left}, []int64{c.right}}, true)
		}
		// Without a step, only a side that is a normal form itself counts.
		want, is := splitByChapters(forked(c.lefts, c.rights), 0)
		checkSplit(t, forked(c.lefts, c.rights), 0, want, is)
	}
	for _, c := range [][2][]int64{{{5}, {5}}, {{5}, {5, 5}}, {{5, 5, 5}, {5, 5}}} {
		for _, steps := range someDepths(0) {
			checkSplit(t, forked(c[0], c[1]), steps, parting{}, false)
		}
	}
	// A side without a normal form.
	for _, rights := range [][]int64{{4}, {4, 4}} {
		checkSplit(t, forked([]int64{5}, rights), 20, parting{}, false)
	}
}

// The first peak that is split counts, though it may be the last one.
func TestWhichPeakIsSplit(t *testing.T) {
	c, d, e := tree{head: 2}, tree{head: 6}, tree{head: 7}
	sig := impl.Sig{Arity: append(five().Arity, 0)}
	apart := []ruling{{onOne(d), d}, {onOne(d), e}}
	for _, x := range closings() {
		b := book{sig, append(slices.Clone(x.b.list), apart...)}
		if !checkSplitOf(t, b, b.crossings(), 3) {
			t.Error(x.name)
		}
	}
	// Before the peak that is split there are one that is trivial and one that is
	// joined.
	b := book{sig, []ruling{undo(), assoc(), {onTwo(c, variable(0)), c}, apart[0], apart[1]}}
	for _, steps := range []int64{0, 1, 2, 3, 20} {
		if crossings := b.crossings(); !checkSplitOf(t, b, crossings, steps) {
			t.Error(steps, len(crossings))
		}
	}
	p, left, right, is := impl.SplitOf(b.system(), 3)
	if !is || p.Over != 0 || p.Under != 3 || !slices.Equal(p.Top, []int64{1, 1, 6}) || !slices.Equal(left, []int64{7}) || !slices.Equal(right, []int64{6}) {
		t.Error(p, left, right, is)
	}
}

// All peaks are joined, and nevertheless one of them has two normal forms.
func TestSplitsOfJoinedPeaks(t *testing.T) {
	b := backAndForth()
	sys := b.system()
	for steps := int64(2); steps <= 20; steps++ {
		p := impl.Peak{Top: []int64{2}, Left: []int64{4}, Right: []int64{3}, Under: 2}
		checkSplit(t, sys, steps, parting{p, []int64{4}, []int64{5}}, true)
		if !impl.JoinsAll(sys, steps) || impl.FiniteIn(sys, []int64{2}, 20) {
			t.Error(steps)
		}
		if v, w, is := impl.JoinedPeak(sys, p, steps); !is || !equalWalks(v, resting([]int64{4})) || len(w.Steps) != 2 {
			t.Error(steps, v, w, is)
		}
	}
}

// Exactly as many steps as one of the sides needs, and one fewer.
func TestStepsOfSplits(t *testing.T) {
	for left := range int64(22) {
		for right := range int64(22) {
			sys := impl.System{Sig: impl.Sig{Arity: []int64{2, 1, 0, 0, 0}}, Rules: []impl.Rule{
				{L: []int64{2}, R: tower(int(right), tree{head: 3}).notation()},
				{L: []int64{2}, R: tower(int(left), tree{head: 4}).notation()},
				{L: []int64{1, -1}, R: []int64{-1}},
			}}
			p := impl.Peak{Top: []int64{2}, Left: sys.Rules[1].R, Right: sys.Rules[0].R, Under: 1}
			most := max(left, right)
			for _, steps := range []int64{most - 1, most, most + 1} {
				if steps < 0 || steps > 20 || steps < most {
					checkSplit(t, sys, steps, parting{}, false)
				} else {
					checkSplit(t, sys, steps, parting{p, []int64{4}, []int64{3}}, true)
				}
			}
		}
	}
	for _, steps := range noDepths() {
		for _, sys := range []impl.System{bookOf(first(), second()).system(), backAndForth().system(), sums(), systemOf()} {
			checkSplit(t, sys, steps, parting{}, false)
		}
	}
}

// The terms that ReachOf leaves out do not count, and neither does a term with a
// redex whose step would be too long.
func TestSplitsOfCrowdedSystems(t *testing.T) {
	for high := 17; high <= 20; high++ {
		sys := crowded(high, 1)
		p := impl.Peak{Top: []int64{6}, Left: []int64{1}, Right: []int64{0}, Over: 6, Under: 7}
		want, is := parting{p, []int64{1}, []int64{4, 1}}, high <= 18
		if !is {
			want = parting{}
		}
		checkSplit(t, sys, int64(high), parting{}, false)
		checkSplit(t, sys, min(20, int64(high)+1), want, is)
		checkSplit(t, sys, 20, want, is)
	}
	for size := 28; size <= 32; size++ {
		sys := impl.System{Sig: five(), Rules: []impl.Rule{
			{L: []int64{2}, R: append([]int64{1}, slices.Concat(slices.Repeat([]int64{0, 3}, size/2), []int64{3})...)},
			{L: []int64{2}, R: []int64{4}},
			{L: []int64{1, -1}, R: []int64{0, -1, -1}},
		}}
		// The argument of f1 has an odd number of elements, and twice as many and
		// one more must fit.
		_, left, right, is := impl.SplitOf(sys, 3)
		if fits := 2*(2*(size/2)+1)+1 <= 60; is != fits || is && (!slices.Equal(left, []int64{4}) || len(right) != 2*(2*(size/2)+1)+1) {
			t.Error(size, left, right, is)
		}
	}
}

// splitByChapters tells the peak by the other functions of the document.
func splitByChapters(sys impl.System, steps int64) (parting, bool) {
	peaks, _ := impl.PeaksOf(sys)
	for _, p := range peaks {
		rights := impl.NormalsOf(sys, p.Right, steps)
		for _, left := range impl.NormalsOf(sys, p.Left, steps) {
			for _, right := range rights {
				if !impl.SameTerm(left, right) {
					return parting{p, left, right}, true
				}
			}
		}
	}
	return parting{}, false
}

func TestSplitsByChapters(t *testing.T) {
	m, split, not := makerOf(57), 0, 0
	rulings := shortRulings()
	for i := range 400 {
		b := bookOf()
		for range 1 + m.IntN(4) {
			b.list = append(b.list, rulings[m.IntN(len(rulings))])
		}
		if i%10 == 0 {
			b = m.crossed(impl.MaxRules)
		}
		steps := m.Int64N(5)
		want, is := splitByChapters(b.system(), steps)
		checkSplit(t, b.system(), steps, want, is)
		if is {
			split++
		} else {
			not++
		}
	}
	if split < 60 || not < 60 {
		t.Error("too few of the systems test much", split, not)
	}
}

func TestSplitsOfBooks(t *testing.T) {
	split, not := 0, 0
	for _, b := range append(append(peakBooks(), longBooks()...), booksOf(abc(), append(someRulings(), swap()), 2)...) {
		crossings := b.crossings()
		for _, steps := range []int64{0, 1, 2, 4} {
			if checkSplitOf(t, b, crossings, steps) {
				split++
			} else {
				not++
			}
		}
	}
	for i, x := range shortRulings() {
		for j, y := range shortRulings() {
			if (i+2*j)%9 == 0 {
				checkSplitOf(t, bookOf(x, y), bookOf(x, y).crossings(), 2)
			}
		}
	}
	if split < 100 || not < 100 {
		t.Error("too few of the systems test much", split, not)
	}
}

// Too many overlaps, or one without a peak.
func TestSplitsUpToTheLimit(t *testing.T) {
	c, d := tree{head: 2}, tree{head: 3}
	for size := 1; size <= 11; size++ {
		b := book{five(), append(slices.Repeat([]ruling{{c, d}}, size), ruling{c, onOne(d)})}
		if is := checkSplitOf(t, b, b.crossings(), 1); is != (size+1 <= 8) {
			t.Error(size, is)
		}
	}
	for high := 28; high <= 33; high++ {
		b := book{five(), []ruling{{c, d}, {c, onTwo(d, d)}, {tower(high, variable(0)), variable(0)}}}
		if is := checkSplitOf(t, b, b.crossings(), 1); is != (high <= 30) {
			t.Error(high, is)
		}
	}
}
