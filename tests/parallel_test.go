package tests

import (
	"slices"
	"testing"

	"loop.example/g00895/impl"
)

// checkParallel checks whether x reduces in parallel to y.
func checkParallel(t *testing.T, b book, x, y tree) bool {
	t.Helper()
	is := impl.ParallelTo(b.system(), x.notation(), y.notation())
	if is != b.isParallel(x, y) {
		t.Fatal(b.system(), x.notation(), y.notation(), is)
	}
	return is
}

func TestExamplesOfParallelTo(t *testing.T) {
	sys := bookOf(undo()).system()
	if !impl.ParallelTo(sys, []int64{1, 1, 1, 2}, []int64{1, 2}) || impl.ParallelTo(sys, []int64{1, 1, 1, 1, 2}, []int64{2}) {
		t.Error("undo")
	}
	if !impl.ParallelTo(sums(), start(), []int64{1, 0, 2, 0, 2, 2}) || impl.ParallelTo(sums(), start(), []int64{1, 2}) {
		t.Error("sums")
	}
}

// A parallelCase is a system with a term and some terms, to each of which it reduces
// in parallel or not.
type parallelCase struct {
	name     string
	sys      impl.System
	from     []int64
	yes, not [][]int64
}

func TestParallelTo(t *testing.T) {
	five := func(sides ...[]int64) impl.System { return impl.System{Sig: five(), Rules: rulesOf(sides)} }
	shrinking, undoing := bookOf(shrink()).system(), bookOf(undo()).system()
	either := bookOf(first(), second()).system()
	cases := []parallelCase{
		{"no rules", systemOf(), []int64{0, -1, 2}, [][]int64{{0, -1, 2}}, [][]int64{{0, -2, 2}, {0, 2, -1}, {-1}, {2}, {1, 2}}},
		{"no rules, a variable", systemOf(), []int64{-1}, [][]int64{{-1}}, [][]int64{{-2}, {-24}, {2}, {1, -1}}},
		{"no rules, a constant", systemOf(), []int64{2}, [][]int64{{2}}, [][]int64{{-1}, {1, 2}}},
		{"a normal form", sums(), []int64{0, -1, 2}, [][]int64{{0, -1, 2}}, [][]int64{{-1}, {2}, {0, 2, -1}, {0, 2, 2}}},
		{"at no place, at one, at two", undoing, []int64{0, 1, 1, 2, 1, 1, -1}, [][]int64{
			{0, 1, 1, 2, 1, 1, -1}, {0, 2, 1, 1, -1}, {0, 1, 1, 2, -1}, {0, 2, -1},
		}, [][]int64{{0, 1, 2, -1}, {0, -1, 2}, {0, 2, 2}, {2}, {-1}, {0, 2, 1, -1}}},
		{"at many places, each by the rule that fits", five([]int64{2}, []int64{3}, []int64{4}, []int64{5}), []int64{0, 2, 0, 4, 0, 2, 1, 4}, [][]int64{
			{0, 3, 0, 5, 0, 3, 1, 5}, {0, 2, 0, 5, 0, 2, 1, 5}, {0, 3, 0, 4, 0, 3, 1, 4}, {0, 3, 0, 4, 0, 2, 1, 5},
		}, [][]int64{{0, 3, 0, 3, 0, 3, 1, 3}, {0, 5, 0, 5, 0, 3, 1, 5}, {0, 3, 0, 5, 0, 3, 5}}},
		{"on top by one of two rules", either, []int64{0, 2, -1}, [][]int64{{2}, {-1}, {0, 2, -1}}, [][]int64{{-2}, {1, 2}, {0, -1, 2}, {0, 2, 2}}},
		{"on top by the last of many rules", five([]int64{2}, []int64{3}, []int64{2}, []int64{4}, []int64{1, -1}, []int64{5}, []int64{2}, []int64{6}), []int64{2}, [][]int64{{2}, {3}, {4}, {6}}, [][]int64{{5}, {1, 2}, {-1}}},
		{"on top, but not by a rule that does not fit", sums(), []int64{0, 2, -1}, [][]int64{{-1}, {0, 2, -1}}, [][]int64{{1, 0, 2, -1}, {2}}},
		{"below the instance of a variable", sums(), []int64{0, -1, 0, 2, -2}, [][]int64{{0, -1, 0, 2, -2}, {0, -1, -2}}, [][]int64{{0, 2, -2}, {-2}, {0, -2, -1}}},
		{"on top or below the instance of a variable", sums(), []int64{0, 2, 0, 2, -1}, [][]int64{{0, 2, 0, 2, -1}, {0, 2, -1}}, [][]int64{{-1}, {0, -1, 2}, {2}}},
		{"not on top and below at once", shrinking, []int64{1, 1, 1, 2}, [][]int64{{1, 1, 1, 2}, {1, 1, 2}}, [][]int64{{1, 2}, {2}}},
		{"not one below the other, but beside each other", shrinking, []int64{0, 1, 1, 2, 1, 2}, [][]int64{{0, 1, 2, 2}, {0, 1, 1, 2, 2}, {0, 1, 2, 1, 2}}, [][]int64{{0, 2, 2}, {0, 2, 1, 2}}},
		{"a redex that only a step makes", undoing, []int64{1, 1, 1, 1, 2}, [][]int64{{1, 1, 2}, {1, 1, 1, 1, 2}}, [][]int64{{2}, {1, 2}, {1, 1, 1, 2}}},
		{"a redex that is there only if no other one is reduced", bookOf(merge(), shrink()).system(), []int64{0, 1, 2, 1, 2}, [][]int64{{1, 2}, {0, 2, 1, 2}, {0, 1, 2, 2}, {0, 2, 2}}, [][]int64{{2}, {0, 1, 2, 1, 1, 2}}},
		{"equal arguments after a step", bookOf(merge(), shrink()).system(), []int64{0, 2, 1, 2}, [][]int64{{0, 2, 2}, {0, 2, 1, 2}}, [][]int64{{2}, {1, 2}}},
		{"a step that copies", bookOf(double()).system(), []int64{1, 1, -1}, [][]int64{{0, 1, -1, 1, -1}, {1, 0, -1, -1}}, [][]int64{{0, 0, -1, -1, 0, -1, -1}, {0, 1, -1, 0, -1, -1}, {0, -1, -1}}},
		{"a step to the same term", bookOf(stay()).system(), []int64{1, 2}, [][]int64{{1, 2}}, [][]int64{{2}}},
		{"a step on top with the same head as before", bookOf(swap()).system(), []int64{0, 0, -1, -2, -3}, [][]int64{{0, -3, 0, -1, -2}, {0, 0, -2, -1, -3}}, [][]int64{{0, -3, 0, -2, -1}, {0, -1, 0, -2, -3}}},
		{"the other way round", shrinking, []int64{2}, [][]int64{{2}}, [][]int64{{1, 2}}},
		{"a variant and an instance", shrinking, []int64{1, -1}, [][]int64{{-1}, {1, -1}}, [][]int64{{-2}, {1, -2}, {2}, {1, 2}}},
	}
	for _, c := range cases {
		for _, u := range c.yes {
			if !impl.ParallelTo(c.sys, c.from, u) {
				t.Error(c.name, u)
			}
		}
		for _, u := range c.not {
			if impl.ParallelTo(c.sys, c.from, u) {
				t.Error(c.name, u)
			}
		}
	}
}

// Against every set of moves that are apart, and the other way round.
func TestParallelStepsOfSmallTerms(t *testing.T) {
	parallel, not, several := 0, 0, 0
	trees := smallTrees([]int64{-1, -24}, 4)
	for i, b := range booksOf(abc(), append(someRulings(), swap()), 2) {
		for j, x := range smallTrees([]int64{-1, -24}, 5) {
			if (i+j)%7 > 0 {
				continue
			}
			found := map[string]bool{}
			for _, r := range b.reducts(x) {
				found[r.to.key()] = true
				if !checkParallel(t, b, x, r.to) {
					t.Fatal(b.system(), x.notation(), r.to.notation())
				}
				if len(r.moves) > 1 {
					several++
				}
			}
			for _, y := range append(b.seconds(x), trees[j%len(trees)], x.mirrored(), onOne(x)) {
				is := checkParallel(t, b, x, y)
				if is != found[y.key()] {
					t.Fatal(b.system(), x.notation(), y.notation(), is)
				}
				if is {
					parallel++
				} else {
					not++
				}
			}
		}
	}
	if parallel < 1000 || not < 5000 || several < 300 {
		t.Error("too few of the terms test much", parallel, not, several)
	}
}

// seconds lists what becomes of x by one move and by two.
func (b book) seconds(x tree) []tree {
	var found []tree
	for _, m := range b.moves(x) {
		found = append(found, m.to)
		for _, n := range b.moves(m.to) {
			found = append(found, n.to)
		}
	}
	return found
}

func TestParallelStepsOfLongTerms(t *testing.T) {
	m, parallel, not := makerOf(54), [2]int{}, 0
	for range 400 {
		b := m.anyBook()
		x := m.bed(b, 1+m.Int64N(50))
		r := reduct{to: x}
		moves := b.moves(x)
		for range 6 {
			if len(moves) == 0 {
				break
			}
			if next := moves[m.IntN(len(moves))]; r.takes(next) && r.with(next).to.size() <= impl.MaxTerm {
				r = r.with(next)
			}
		}
		if !checkParallel(t, b, x, r.to) {
			t.Fatal(b.system(), x.notation(), r.to.notation())
		}
		parallel[min(1, len(r.moves)/2)]++
		for _, y := range []tree{m.trail(b, x, 2).last(), m.trail(b, r.to, 1).last(), m.trail(b, r.to, 3).last()} {
			if !checkParallel(t, b, x, y) {
				not++
			}
		}
	}
	if parallel[0] < 50 || parallel[1] < 50 || not < 150 {
		t.Error("too few of the terms test much", parallel, not)
	}
}

// Each step and no step is a parallel reduction, and so is each one inside a term
// or under a substitution.
func TestStepsAreParallel(t *testing.T) {
	m, steps := makerOf(55), 0
	for range 300 {
		b := m.anyBook()
		sys, nums := b.system(), m.bed(b, 1+m.Int64N(40)).notation()
		if !impl.ParallelTo(sys, nums, nums) {
			t.Fatal(sys, nums)
		}
		for _, x := range impl.StepsFrom(sys, nums) {
			if !impl.ParallelTo(sys, nums, x.To) {
				t.Fatal(sys, nums, x)
			}
			steps++
			around := m.tree(b.sig, 1+m.Int64N(8)).notation()
			at := m.Int64N(int64(len(around)))
			before, _ := impl.PutAt(b.sig, around, at, nums)
			after, is := impl.PutAt(b.sig, around, at, x.To)
			if is && len(before) > 0 && !impl.ParallelTo(sys, before, after) {
				t.Fatal(sys, before, after)
			}
			s := substOf([]int64{-2}, m.tree(b.sig, 3).notation(), []int64{-1})
			before, _ = impl.Filled(b.sig, s, nums)
			after, is = impl.Filled(b.sig, s, x.To)
			if is && len(before) > 0 && !impl.ParallelTo(sys, before, after) {
				t.Fatal(sys, before, after)
			}
		}
	}
	if steps < 800 {
		t.Error("too few of the terms test much", steps)
	}
}

// A parallel reduction is a rewrite sequence with at most as many steps as there
// are places.
func TestParallelReductionsAreSequences(t *testing.T) {
	for i, b := range booksOf(abc(), someRulings(), 2) {
		sys := b.system()
		for j, x := range smallTrees([]int64{-1}, 5) {
			if (i+j)%23 > 0 {
				continue
			}
			for _, r := range b.reducts(x) {
				w, is := impl.WalkTo(sys, x.notation(), r.to.notation(), int64(len(r.moves)))
				if _, all := impl.ReachOf(sys, x.notation(), int64(len(r.moves))); all && !is {
					t.Fatal(sys, x.notation(), r.to.notation(), w)
				}
			}
		}
	}
}

// Long terms and terms with many places.
func TestParallelStepsUpToTheLimit(t *testing.T) {
	sys := impl.System{Sig: five(), Rules: rulesOf([][]int64{{2}, {3}, {3}, {4}, {1, -1}, {-1}})}
	for places := 1; places <= 30; places++ {
		all := func(n int64) []int64 { return rowOf(places, func(int64) tree { return tree{head: n} }).notation() }
		if !impl.ParallelTo(sys, all(2), all(3)) || !impl.ParallelTo(sys, all(3), all(4)) || impl.ParallelTo(sys, all(2), all(4)) || impl.ParallelTo(sys, all(3), all(2)) {
			t.Fatal(places)
		}
		// One of the places is different.
		for at := range places {
			mixed := rowOf(places, func(i int64) tree { return tree{head: 3 + int64(min(1, max(int(i)-at, at-int(i))))} }).notation()
			if is := impl.ParallelTo(sys, all(2), mixed); is != (places == 1) {
				t.Fatal(places, at)
			}
			if is := impl.ParallelTo(sys, all(3), mixed); !is {
				t.Fatal(places, at)
			}
		}
	}
	for size := 2; size <= 60; size++ {
		for less := range 4 {
			if size-less > 0 && impl.ParallelTo(sys, append(nested(size)[:size-1], 4), append(nested(size - less)[:size-less-1], 4)) != (less <= 1) {
				t.Fatal(size, less)
			}
		}
	}
	// A step to MaxTerm numbers, and one that would be longer.
	doubling := bookOf(double()).system()
	for size := 1; size <= 59; size++ {
		copied := slices.Concat([]int64{0}, nested(size), nested(size))
		if impl.ParallelTo(doubling, append([]int64{1}, nested(size)...), copied) != (size <= 29) {
			t.Fatal(size)
		}
	}
}
