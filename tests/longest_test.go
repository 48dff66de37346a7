package tests

import (
	"slices"
	"testing"

	"loop.example/g00895/impl"
)

// checkLength checks the length of the longest sequence, and whether there is one.
func checkLength(t *testing.T, sys impl.System, nums []int64, steps, want int64) {
	t.Helper()
	if got := impl.LongestOf(sys, nums, steps); got != want {
		t.Fatal("LongestOf", sys, nums, steps, got, want)
	}
	if impl.FiniteIn(sys, nums, steps) != (want >= 0) {
		t.Fatal("FiniteIn", sys, nums, steps, want)
	}
}

// checkLengths checks the length for all numbers of steps, given the only one that
// is not -1.
func checkLengths(t *testing.T, sys impl.System, nums []int64, want int64) {
	t.Helper()
	for _, steps := range someDepths(0) {
		if want < 0 || steps < want {
			checkLength(t, sys, nums, steps, -1)
		} else {
			checkLength(t, sys, nums, steps, want)
		}
	}
}

func TestExamplesOfLengths(t *testing.T) {
	checkLengths(t, sums(), start(), 3)
	if impl.LongestOf(sums(), start(), 3) != 3 || impl.LongestOf(sums(), start(), 2) != -1 || !impl.FiniteIn(sums(), start(), 20) {
		t.Error("LongestOf")
	}
}

func TestLengthsOfNormalForms(t *testing.T) {
	for _, sys := range []impl.System{systemOf(), systemOf([]int64{1, 1, 1, 2}, []int64{2})} {
		for _, nums := range [][]int64{{2}, {-1}, {-24}, {1, 2}, big(), {0, 2, 2}, comb(59)} {
			checkLengths(t, sys, nums, 0)
		}
	}
	checkLengths(t, sums(), []int64{1, 0, -1, 2}, 0)
}

// Exactly so many steps, and one more.
func TestLengthsUpToTheLimit(t *testing.T) {
	for long := 0; long <= 59; long++ {
		sys, nums := countdown(long)
		if long <= 20 {
			checkLengths(t, sys, nums, int64(long))
		} else {
			checkLengths(t, sys, nums, -1)
		}
		for _, steps := range noDepths() {
			checkLength(t, sys, nums, steps, -1)
		}
	}
}

// The longest sequence is not the one by which ReachOf finds the last term.
func TestLongWaysBesideShortOnes(t *testing.T) {
	cases := []struct {
		sys  impl.System
		nums []int64
		want int64
	}{
		{impl.System{Sig: five(), Rules: rulesOf([][]int64{{2}, {6}, {2}, {3}, {3}, {6}})}, []int64{2}, 2},
		{impl.System{Sig: five(), Rules: rulesOf([][]int64{{2}, {6}, {2}, {3}, {3}, {4}, {4}, {5}, {5}, {6}, {2}, {4}})}, []int64{2}, 4},
		{impl.System{Sig: five(), Rules: rulesOf([][]int64{{2}, {6}, {2}, {3}, {3}, {4}, {4}, {5}, {5}, {6}, {2}, {4}})}, []int64{0, 2, 3}, 7},
		{systemOf([]int64{1, -1}, []int64{2}, []int64{1, -1}, []int64{-1}), nested(10), 9},
		{systemOf([]int64{1, -1}, []int64{2}), nested(20), 19},
		{systemOf([]int64{1, -1}, []int64{2}), nested(21), 20},
		{systemOf([]int64{1, -1}, []int64{2}), nested(22), -1},
		// A redex is doubled, or two of them become one.
		{bookOf(double()).system(), []int64{1, 1, 2}, 3},
		{bookOf(double()).system(), []int64{1, 1, 1, 2}, 7},
		{bookOf(merge(), plusZero()).system(), []int64{0, 0, 2, 2, 0, 2, 2}, 3},
		// The same term after different numbers of steps.
		{systemOf([]int64{1, 1, -1}, []int64{2}, []int64{1, -1}, []int64{2}), []int64{1, 1, 1, 2}, 3},
	}
	for _, c := range cases {
		checkLengths(t, c.sys, c.nums, c.want)
	}
}

func TestLengthsWithoutAnEnd(t *testing.T) {
	never := []struct {
		sys  impl.System
		nums []int64
	}{
		{bookOf(stay()).system(), []int64{2}},
		{bookOf(stay()).system(), []int64{0, 2, -1}},
		{bookOf(swap()).system(), []int64{0, -1, -2}},
		{bookOf(swap()).system(), []int64{0, -1, -1}},
		{bookOf(grow()).system(), []int64{1, 2}},
		{systemOf([]int64{0, 2, -1}, []int64{0, 1, 2, -1}, []int64{0, 1, -1, -2}, []int64{0, -1, -2}), []int64{0, 2, -1}},
		// Only one of the ways has no end, and the others are short.
		{systemOf([]int64{1, -1}, []int64{2}, []int64{0, -1, -2}, []int64{0, -2, -1}, []int64{0, -1, -2}, []int64{-1}), []int64{0, -1, 1, 2}},
		{impl.System{Sig: five(), Rules: rulesOf([][]int64{{2}, {6}, {2}, {3}, {3}, {4}, {4}, {3}})}, []int64{2}},
		{impl.System{Sig: five(), Rules: rulesOf([][]int64{{2}, {6}, {2}, {2}})}, []int64{1, 2}},
	}
	for _, c := range never {
		checkLengths(t, c.sys, c.nums, -1)
	}
	// Terms of the same systems from which every way has an end.
	checkLengths(t, never[7].sys, []int64{6}, 0)
	checkLengths(t, never[6].sys, []int64{1, 1, 2}, 2)
	checkLengths(t, bookOf(stay()).system(), []int64{1, -1}, 0)
}

// Exactly MaxReach different terms after the same number of steps, and one more.
func TestWidthOfLayers(t *testing.T) {
	cases := []struct {
		heights []int
		want    int64
	}{
		{[]int{3, 4, 4, 3}, 14}, {[]int{1, 1, 1, 2, 2, 3}, 10}, {[]int{1, 4, 5, 10}, 20}, {[]int{10, 5, 1, 4}, 20}, {[]int{6, 3, 3, 3}, 15}, // 60, the last one 59
		{[]int{2, 4, 4, 5}, -1}, {[]int{2, 2, 2, 2, 3}, -1}, {[]int{8, 6, 2, 2}, -1}, {[]int{3, 3, 3, 7}, -1}, // 61, the last one 62
		// More terms than MaxReach in all, and few of them after each number of steps.
		{[]int{3, 15}, 18}, {[]int{10, 10}, 20}, {[]int{6, 7, 7}, 20}, {[]int{6, 7, 8}, -1},
	}
	for _, c := range cases {
		b, x := bookOf(shrink()), towers(c.heights...)
		checkLengths(t, b.system(), x.notation(), c.want)
		if got := b.longest(x, 20); got != c.want {
			t.Fatal(c.heights, got)
		}
	}
	// So many places with one of two rules each, and most terms amid them.
	two := impl.System{Sig: five(), Rules: rulesOf([][]int64{{2}, {3}, {2}, {4}})}
	for many, want := range map[int]int64{1: 1, 2: 2, 3: 3, 4: 4, 5: -1, 6: -1, 29: -1, 30: -1} {
		x := row(several(many, func(int64) tree { return tree{head: 2} })...)
		checkLengths(t, two, x.notation(), want)
	}
}

// options is a system with so many ways to replace f1, f2 and f3 each. The results
// are normal forms.
func options(ways ...int) impl.System {
	sys := impl.System{Sig: impl.Sig{Arity: []int64{3, 0, 0, 0, 0, 1}}}
	for i, many := range ways {
		for high := range many {
			right := append(slices.Repeat([]int64{5}, high), 4)
			sys.Rules = append(sys.Rules, impl.Rule{L: []int64{int64(i) + 1}, R: right})
		}
	}
	return sys
}

// The last terms are the most, and all of them are normal forms.
func TestWidthOfTheLastLayer(t *testing.T) {
	checkLengths(t, options(3, 4, 5), []int64{0, 1, 2, 3}, 3)
	checkLengths(t, options(4, 3, 5), []int64{0, 3, 2, 1}, 3)
	checkLengths(t, options(3, 6), []int64{0, 1, 2, 1}, 3)
	checkLengths(t, options(3, 7), []int64{0, 1, 2, 1}, -1)
	checkLengths(t, options(4), []int64{0, 1, 1, 1}, -1)
	checkLengths(t, options(4), []int64{0, 1, 4, 1}, 2)
}

// A redex whose step would be too long counts in every term that is met, though
// ReachOf leaves the step out.
func TestLengthsWithTooLongSteps(t *testing.T) {
	leaves := func(many int) []int64 { return row(several(many, variable)...).notation() }
	// f1(x0) -> f0(x0,x0), and f2 -> f3.
	sys := impl.System{Sig: five(), Rules: rulesOf([][]int64{{1, -1}, {0, -1, -1}, {2}, {3}})}
	upTo60 := systemOf([]int64{0, -1, 2}, []int64{1, 1, -1})
	upTo61 := systemOf([]int64{0, -1, 2}, []int64{1, 1, 1, -1})
	cases := []struct {
		sys  impl.System
		nums []int64
		want int64
	}{
		{sys, append([]int64{1}, leaves(15)...), 1},
		{sys, append([]int64{1}, leaves(16)...), -1},
		{sys, append([]int64{0, 2, 1}, leaves(14)...), 2},
		{sys, append([]int64{0, -1, 1}, leaves(15)...), -1},
		// Another step from the same term fits, in front of it or behind it.
		{sys, append([]int64{0, 2, 1}, leaves(15)...), -1},
		{sys, append(append([]int64{0, 1}, leaves(15)...), 2), -1},
		{bookOf(grow(), ruling{onOne(variable(0)), tree{head: 2}}).system(), nested(60), -1},
		// A term of 60 numbers, and one of 61.
		{upTo60, onTwo(tower(57, variable(0)), tree{head: 2}).notation(), 1},
		{upTo61, onTwo(tower(56, variable(0)), tree{head: 2}).notation(), 1},
		{upTo61, onTwo(tower(57, variable(0)), tree{head: 2}).notation(), -1},
	}
	for _, c := range cases {
		checkLengths(t, c.sys, c.nums, c.want)
	}
	for size := 41; size <= 60; size++ {
		checkLengths(t, bookOf(grow()).system(), nested(size), -1)
	}
}

// The redex whose step would be too long is only in the term that is met after so
// many steps.
func TestLengthsWithATooLongStepAtTheEnd(t *testing.T) {
	down := bookOf(shrink(), ruling{onTwo(tree{head: 2}, variable(0)), onTwo(variable(0), variable(0))})
	for high := range 25 {
		short := onTwo(tower(high, tree{head: 2}), row(several(15, variable)...))
		long := onTwo(tower(high, tree{head: 2}), row(several(16, variable)...))
		if high < 20 {
			checkLengths(t, down.system(), short.notation(), int64(high)+1)
		} else {
			checkLengths(t, down.system(), short.notation(), -1)
		}
		checkLengths(t, down.system(), long.notation(), -1)
		if got := down.longest(long, 20); got != -1 {
			t.Fatal(high, got)
		}
	}
}

// checkLongest checks the length of the longest sequence of moves from x.
func checkLongest(t *testing.T, b book, x tree, steps int64) int64 {
	t.Helper()
	want := b.longest(x, steps)
	checkLength(t, b.system(), x.notation(), steps, want)
	return want
}

func TestLengthsOfSmallTerms(t *testing.T) {
	ends, not := 0, 0
	for _, b := range booksOf(abc(), append(someRulings(), swap()), 2) {
		for _, x := range smallTrees([]int64{-1, -24}, 3) {
			for steps := range int64(5) {
				if checkLongest(t, b, x, steps) > 0 {
					ends++
				} else {
					not++
				}
			}
		}
	}
	if ends < 1000 || not < 1000 {
		t.Error("too few of the terms test much", ends, not)
	}
}

func TestLengthsOfLongTerms(t *testing.T) {
	m, many, not := makerOf(33), 0, 0
	for i := range 400 {
		b := m.bookOrEnding(i)
		if longest := checkLongest(t, b, m.bed(b, 1+m.Int64N(30)), 2+m.Int64N(19)); longest > 3 {
			many++
		} else if longest < 0 {
			not++
		}
	}
	if many < 60 || not < 60 {
		t.Error("too few of the terms test much", many, not)
	}
}

// A term's longest sequence is one step longer than that of one of its steps, and
// a longer limit does not change it.
func TestLengthsAgreeWithSteps(t *testing.T) {
	m, many := makerOf(34), 0
	for i := range 100 {
		b := endingBooks()[i%len(endingBooks())]
		sys, nums := b.system(), m.bed(b, 1+m.Int64N(30)).notation()
		longest := impl.LongestOf(sys, nums, 20)
		if longest < 0 {
			continue
		}
		rest := int64(-1)
		for _, x := range impl.StepsFrom(sys, nums) {
			rest = max(rest, impl.LongestOf(sys, x.To, 20))
		}
		if longest != rest+1 || (longest == 0) != impl.NormalIn(sys, nums) {
			t.Fatal(sys, nums, longest, rest)
		}
		checkLengths(t, sys, nums, longest)
		for _, strategy := range strategies() {
			if count := impl.CountBy(sys, nums, strategy, 60); count < 0 || count > longest {
				t.Fatal(sys, nums, strategy, count, longest)
			}
		}
		if longest > 1 {
			many++
		}
	}
	if many < 40 {
		t.Error("too few of the terms test much", many)
	}
}
