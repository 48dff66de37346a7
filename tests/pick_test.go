package tests

import (
	"slices"
	"testing"

	"loop.example/g00895/impl"
)

// A pick is a redex that a strategy selects.
type pick struct{ at, rule int64 }

// checkPicks checks which redexes the three strategies select, in the order of
// their numbers.
func checkPicks(t *testing.T, sys impl.System, nums []int64, want [3]pick) {
	t.Helper()
	for i, strategy := range strategies() {
		at, rule, is := impl.PickBy(sys, nums, strategy)
		if !is || at != want[i].at || rule != want[i].rule {
			t.Error(sys, nums, strategy, at, rule, is)
		}
	}
}

// checkNoPick checks that the strategy selects nothing.
func checkNoPick(t *testing.T, sys impl.System, nums []int64, strategy int64) {
	t.Helper()
	if at, rule, is := impl.PickBy(sys, nums, strategy); is || at != 0 || rule != 0 {
		t.Fatal(sys, nums, strategy, at, rule, is)
	}
}

// checkLists checks the positions of the redexes, of those with no redex below
// them, and of those that are not below another one.
func checkLists(t *testing.T, sys impl.System, nums, all, inmost, outmost []int64) {
	t.Helper()
	if got := impl.RedexesIn(sys, nums); !slices.Equal(got, all) {
		t.Fatal("RedexesIn", sys, nums, got, all)
	}
	if got := impl.InmostIn(sys, nums); !slices.Equal(got, inmost) {
		t.Fatal("InmostIn", sys, nums, got, inmost)
	}
	if got := impl.OutmostIn(sys, nums); !slices.Equal(got, outmost) {
		t.Fatal("OutmostIn", sys, nums, got, outmost)
	}
}

// checkChoices checks what every function says of the redexes of x.
func checkChoices(t *testing.T, b book, x tree) {
	t.Helper()
	sys, nums, spots := b.system(), x.notation(), b.redexSpots(x)
	checkLists(t, sys, nums, standings(spots), standings(inmostOf(spots)), standings(outmostOf(spots)))
	for _, strategy := range strategies() {
		m, is := b.choice(x, strategy)
		if !is {
			checkNoPick(t, sys, nums, strategy)
		} else if at, rule, is := impl.PickBy(sys, nums, strategy); !is || at != m.at || rule != m.rule {
			t.Fatal(sys, nums, strategy, at, rule, is, m)
		}
	}
}

func TestExamplesOfPicks(t *testing.T) {
	if at, rule, is := impl.PickBy(sums(), start(), impl.StOutmost); at != 0 || rule != 1 || !is {
		t.Error("PickBy", at, rule, is)
	}
	checkPicks(t, sums(), start(), [3]pick{{3, 0}, {0, 1}, {3, 0}})
	checkLists(t, sums(), []int64{0, 0, 2, 2, 0, 2, 0, 2, 2}, []int64{1, 4, 6}, []int64{1, 6}, []int64{1, 4})
	if impl.StInmost != 1 || impl.StOutmost != 2 || impl.StLast != 3 {
		t.Error(strategies())
	}
}

// The redexes are of f0, and of other symbols where told.
func TestRedexesInsideAndBeside(t *testing.T) {
	equal := systemOf([]int64{0, -1, -1}, []int64{-1})
	cases := []struct {
		sys                  impl.System
		nums                 []int64
		all, inmost, outmost []int64
	}{
		// None, and one.
		{sums(), []int64{1, 2}, nil, nil, nil},
		{sums(), []int64{-1}, nil, nil, nil},
		{sums(), []int64{0, -1, 0, 0, -1, 2, 2}, nil, nil, nil},
		{sums(), []int64{0, 2, -1}, []int64{0}, []int64{0}, []int64{0}},
		{sums(), []int64{0, -1, 0, 2, -1}, []int64{2}, []int64{2}, []int64{2}},
		{sums(), []int64{1, 1, 0, 2, 2}, []int64{2}, []int64{2}, []int64{2}},
		// Beside one another.
		{sums(), []int64{0, 0, 2, 2, 0, 2, 2}, []int64{1, 4}, []int64{1, 4}, []int64{1, 4}},
		{sums(), []int64{0, 0, 0, 2, 2, 0, 2, 2, 0, 2, 2}, []int64{2, 5, 8}, []int64{2, 5, 8}, []int64{2, 5, 8}},
		{systemOf([]int64{2}, []int64{2}), []int64{0, 2, 0, 1, 2, 2}, []int64{1, 4, 5}, []int64{1, 4, 5}, []int64{1, 4, 5}},
		// Inside one another.
		{sums(), []int64{0, 2, 0, 2, 0, 2, 2}, []int64{0, 2, 4}, []int64{4}, []int64{0}},
		{sums(), []int64{0, 1, 1, 0, 2, 2, 2}, []int64{0, 3}, []int64{3}, []int64{0}},
		{systemOf([]int64{1, -1}, []int64{-1}), []int64{1, 1, 1, 2}, []int64{0, 1, 2}, []int64{2}, []int64{0}},
		// One around two, two around one each, and one around such ones.
		{sums(), []int64{0, 1, 0, 2, 2, 0, 2, 2}, []int64{0, 2, 5}, []int64{2, 5}, []int64{0}},
		{sums(), []int64{0, 0, 2, 0, 2, 2, 0, 1, 0, 2, 2, 2}, []int64{1, 3, 6, 8}, []int64{3, 8}, []int64{1, 6}},
		{sums(), []int64{0, 2, 0, 0, 2, 0, 2, 2, 0, 2, 2}, []int64{0, 3, 5, 8}, []int64{5, 8}, []int64{0}},
		{equal, []int64{0, 0, 2, 2, 0, 2, 2}, []int64{0, 1, 4}, []int64{1, 4}, []int64{0}},
		{equal, []int64{0, 0, 0, 2, 2, 0, 2, 2, 2}, []int64{1, 2, 5}, []int64{2, 5}, []int64{1}},
		// The last one of the inner ones ends where the outer one ends, or before.
		{equal, []int64{0, 1, 0, -1, -1, 1, 0, -1, -1}, []int64{0, 2, 6}, []int64{2, 6}, []int64{0}},
		{sums(), []int64{0, 0, 2, 0, 0, 2, 2, 2, 0, 2, 2}, []int64{1, 4, 8}, []int64{4, 8}, []int64{1, 8}},
		// A position with more than one redex is listed once.
		{many(12, []int64{1, -1}, []int64{-1}), []int64{1, 0, 1, 2, 2}, []int64{0, 2}, []int64{2}, []int64{0}},
		{systemOf([]int64{2}, []int64{2}, []int64{1, 2}, []int64{2}, []int64{1, -1}, []int64{2}, []int64{2}, []int64{1, 2}), []int64{1, 2}, []int64{0, 1}, []int64{1}, []int64{0}},
	}
	for _, c := range cases {
		checkLists(t, c.sys, c.nums, c.all, c.inmost, c.outmost)
		if len(c.all) > 0 {
			continue
		}
		for _, strategy := range strategies() {
			checkNoPick(t, c.sys, c.nums, strategy)
		}
	}
}

func TestPicks(t *testing.T) {
	first, second := []int64{0, -1, -2}, []int64{0, 2, -1}
	cases := []struct {
		sys  impl.System
		nums []int64
		want [3]pick
	}{
		// Three positions, or two of them the same.
		{sums(), []int64{0, 1, 0, 2, 2, 0, 2, 2}, [3]pick{{2, 0}, {0, 1}, {5, 0}}},
		{sums(), []int64{0, 0, 2, 2, 0, 2, 0, 2, 2}, [3]pick{{1, 0}, {1, 0}, {6, 0}}},
		{sums(), []int64{0, 2, 0, 2, 0, 1, 2, 2}, [3]pick{{4, 1}, {0, 0}, {4, 1}}},
		{sums(), []int64{0, 1, -1, -1}, [3]pick{{0, 1}, {0, 1}, {0, 1}}},
		// The first one below which there is none is not the deepest one.
		{sums(), []int64{0, 1, 0, 2, 2, 1, 1, 0, 1, 2, 2}, [3]pick{{2, 0}, {0, 1}, {7, 1}}},
		{sums(), []int64{0, 1, 1, 1, 0, 2, 2, 0, 1, 2, 2}, [3]pick{{4, 0}, {0, 1}, {7, 1}}},
		// Of two rules at the position the smallest counts, whatever their left sides are.
		{systemOf(first, []int64{-1}, first, []int64{-2}), []int64{0, 2, 1, 2}, [3]pick{{0, 0}, {0, 0}, {0, 0}}},
		{systemOf(first, []int64{-1}, second, []int64{-1}), []int64{1, 0, 2, 2}, [3]pick{{1, 0}, {1, 0}, {1, 0}}},
		{systemOf(second, []int64{-1}, first, []int64{-1}), []int64{1, 0, 2, 2}, [3]pick{{1, 0}, {1, 0}, {1, 0}}},
		{systemOf(second, []int64{-1}, first, []int64{-1}), []int64{1, 0, -1, 2}, [3]pick{{1, 1}, {1, 1}, {1, 1}}},
		{many(12, []int64{2}, []int64{2}), []int64{0, 2, 2}, [3]pick{{1, 0}, {1, 0}, {2, 0}}},
		// The rules at other positions do not count.
		{systemOf([]int64{1, -1}, []int64{-1}, first, []int64{-1}, first, []int64{-2}), []int64{0, 1, 2, 2}, [3]pick{{1, 0}, {0, 1}, {1, 0}}},
		{systemOf(first, []int64{-1}, []int64{2}, []int64{2}, []int64{1, 2}, []int64{2}, []int64{1, -1}, []int64{-1}), []int64{0, 1, 2, 1, -1}, [3]pick{{2, 1}, {0, 0}, {3, 3}}},
		{systemOf([]int64{2}, []int64{2}, []int64{1, 2}, []int64{2}, []int64{1, -1}, []int64{2}), []int64{1, 2}, [3]pick{{1, 0}, {0, 1}, {1, 0}}},
		// The last one of 12 rules and of eight symbols.
		{impl.System{Sig: abc(), Rules: append(many(11, []int64{0, 2, 2}, []int64{2}).Rules, impl.Rule{L: []int64{1, -1}, R: []int64{-1}})}, []int64{1, 0, 1, -1, 2}, [3]pick{{2, 11}, {0, 11}, {2, 11}}},
		{impl.System{Sig: wide(), Rules: rulesOf([][]int64{{0}, {2}, {7, -1, -2, -3}, {6, -2}})}, []int64{1, 7, 2, 0, 0, 3, 7, 3, 3, 3}, [3]pick{{3, 0}, {1, 1}, {6, 1}}},
		// A redex counts though its step would be too long.
		{bookOf(grow()).system(), nested(60), [3]pick{{58, 0}, {0, 0}, {58, 0}}},
		{bookOf(double(), shrink()).system(), nested(60), [3]pick{{58, 0}, {0, 0}, {58, 0}}},
		{bookOf(double(), shrink()).system(), onTwo(tower(55, variable(0)), onOne(variable(0))).notation(), [3]pick{{55, 0}, {1, 0}, {57, 0}}},
	}
	for _, c := range cases {
		checkPicks(t, c.sys, c.nums, c.want)
	}
}

func TestChoicesOfSmallTerms(t *testing.T) {
	for _, b := range booksOf(abc(), append(someRulings(), swap()), 2) {
		for _, x := range smallTrees([]int64{-1, -24}, 4) {
			checkChoices(t, b, x)
		}
	}
	for _, b := range []book{bookOf(plusZero(), plusNext()), bookOf(merge()), bookOf(shrink(), stay()), bookOf(plusNext(), merge(), stay())} {
		for _, x := range smallTrees([]int64{-1}, 6) {
			checkChoices(t, b, x)
		}
	}
}

func TestChoicesOfLongTerms(t *testing.T) {
	m, three, more := makerOf(21), 0, 0
	for range 600 {
		b := m.anyBook()
		x := m.bed(b, 1+m.Int64N(impl.MaxTerm))
		checkChoices(t, b, x)
		picked := map[int64]bool{}
		for _, strategy := range strategies() {
			if y, is := b.choice(x, strategy); is {
				picked[y.at] = true
			}
		}
		if len(picked) == 3 {
			three++
		}
		if spots := b.redexSpots(x); len(inmostOf(spots)) > 1 && len(outmostOf(spots)) > 1 && len(spots) > 4 {
			more++
		}
	}
	if three < 60 || more < 60 {
		t.Error("too few of the terms test much", three, more)
	}
}

// checkListsByChapters checks the lists against what the functions of the
// chapters before say.
func checkListsByChapters(t *testing.T, sys impl.System, nums []int64) {
	t.Helper()
	var all, inmost, outmost []int64
	for _, r := range sys.Rules {
		all = append(all, impl.EmbedsIn(sys.Sig, r.L, nums)...)
	}
	slices.Sort(all)
	all = slices.Compact(all)
	for _, at := range all {
		isBelow := func(p int64) bool { return p != at && impl.InsideIn(sys.Sig, nums, at, p) }
		isAbove := func(p int64) bool { return slices.Contains(impl.AboveOf(sys.Sig, nums, at), p) }
		if !slices.ContainsFunc(all, isBelow) {
			inmost = append(inmost, at)
		}
		if !slices.ContainsFunc(all, isAbove) {
			outmost = append(outmost, at)
		}
	}
	checkLists(t, sys, nums, all, inmost, outmost)
	if impl.NormalIn(sys, nums) != (len(inmost) == 0) || impl.NormalIn(sys, nums) != (len(outmost) == 0) {
		t.Fatal(sys, nums, inmost, outmost)
	}
}

func TestListsAgreeWithPositionsAndMatching(t *testing.T) {
	m := makerOf(22)
	for _, b := range append(longBooks(), bookOf()) {
		for range 60 {
			checkListsByChapters(t, b.system(), m.bed(b, 1+m.Int64N(impl.MaxTerm)).notation())
		}
		for _, nums := range append(someTerms(), start()) {
			checkListsByChapters(t, b.system(), nums)
		}
	}
}

// The most redexes that a term may have.
func TestEveryPositionIsARedex(t *testing.T) {
	sys := systemOf([]int64{0, -1, -2}, []int64{-1}, []int64{1, -1}, []int64{-1}, []int64{2}, []int64{2})
	checkLists(t, sys, nested(60), everyPlace(60), []int64{59}, []int64{0})
	checkPicks(t, sys, nested(60), [3]pick{{59, 2}, {0, 1}, {59, 2}})
	teeth := append(slices.Repeat([]int64{0, 2}, 29), 2)
	var leaves []int64
	for at, n := range teeth {
		if n == 2 {
			leaves = append(leaves, int64(at))
		}
	}
	checkLists(t, sys, teeth, everyPlace(59), leaves, []int64{0})
	checkPicks(t, sys, teeth, [3]pick{{1, 2}, {0, 0}, {58, 2}})
	checkLists(t, systemOf([]int64{2}, []int64{2}), teeth, leaves, leaves, leaves)
}
