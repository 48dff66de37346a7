package tests

import (
	"slices"
	"testing"

	"loop.example/g00895/impl"
)

// checkSequence checks P9: the walk is a rewrite sequence from nums to u of at most
// so many steps.
func checkSequence(t *testing.T, sys impl.System, nums, u []int64, w impl.Walk, steps int64) {
	t.Helper()
	if !impl.WalkOk(sys, w) || !slices.Equal(w.From, nums) || !slices.Equal(impl.EndTerm(sys, w), u) || int64(len(w.Steps)) > steps {
		t.Fatal("no rewrite sequence", sys, nums, u, steps, w)
	}
}

// checkReached checks that w is the walk by which its last term is found.
func checkReached(t *testing.T, sys impl.System, nums []int64, w impl.Walk, steps int64) {
	t.Helper()
	u := endOfSteps(w)
	got, is := impl.WalkTo(sys, nums, u, steps)
	if !is || !equalWalks(got, w) {
		t.Fatal("WalkTo", sys, nums, u, steps, got, is)
	}
	checkSequence(t, sys, nums, u, got, steps)
}

// checkNotReached checks that u is not found.
func checkNotReached(t *testing.T, sys impl.System, nums, u []int64, steps int64) {
	t.Helper()
	if w, is := impl.WalkTo(sys, nums, u, steps); is || !isZeroWalk(w) {
		t.Fatal("WalkTo", sys, nums, u, steps, w, is)
	}
	terms, _ := impl.ReachOf(sys, nums, steps)
	if isAmong(terms, u) {
		t.Fatal("ReachOf", sys, nums, u, steps)
	}
}

// checkTerms checks which terms are found, and that each of them is reached.
func checkTerms(t *testing.T, sys impl.System, nums []int64, steps int64, want [][]int64, all bool) {
	t.Helper()
	got, done := impl.ReachOf(sys, nums, steps)
	if !equalTerms(got, want) || done != all {
		t.Fatal("ReachOf", sys, nums, steps, got, done)
	}
	var normals [][]int64
	for _, u := range got {
		w, is := impl.WalkTo(sys, nums, u, steps)
		if !is {
			t.Fatal("WalkTo", sys, nums, u, steps, w)
		}
		checkSequence(t, sys, nums, u, w, steps)
		if impl.NormalIn(sys, u) {
			normals = append(normals, u)
		}
	}
	if list := impl.NormalsOf(sys, nums, steps); !equalTerms(list, normals) {
		t.Fatal("NormalsOf", sys, nums, steps, list)
	}
}

// checkSpread checks what every function says of the terms that are reached from
// x, and returns the trails to them.
func checkSpread(t *testing.T, b book, x tree, steps int64) spread {
	t.Helper()
	sys, nums, want := b.system(), x.notation(), b.spread(x, steps)
	if got, all := impl.ReachOf(sys, nums, steps); !equalTerms(got, want.terms()) || all != want.all {
		t.Fatal("ReachOf", sys, nums, steps, got, all)
	}
	if got := impl.NormalsOf(sys, nums, steps); !equalTerms(got, want.normals(b)) {
		t.Fatal("NormalsOf", sys, nums, steps, got)
	}
	for _, r := range want.trails {
		checkReached(t, sys, nums, r.walk(), steps)
	}
	others := []tree{variable(0), {head: 2}, onOne(x), onTwo(x, x)}
	for _, m := range b.moves(want.trails[len(want.trails)-1].last()) {
		others = append(others, m.to)
	}
	for _, y := range others {
		if _, is := want.to(y); !is {
			checkNotReached(t, sys, nums, y.notation(), steps)
		}
	}
	return want
}

// someDepths are the valid numbers of steps from a number on.
func someDepths(from int64) []int64 {
	var found []int64
	for steps := from; steps <= 20; steps++ {
		found = append(found, steps)
	}
	return found
}

// five is a signature with five constants, from f2 to f6.
func five() impl.Sig { return impl.Sig{Arity: []int64{2, 1, 0, 0, 0, 0, 0}} }

func TestExamplesOfReach(t *testing.T) {
	found := [][]int64{start(), {1, 0, 2, 0, 2, 2}, {0, 1, 2, 2}, {1, 0, 2, 2}, {1, 2}}
	for steps, many := range []int{1, 3, 4, 5, 5, 5} {
		checkTerms(t, sums(), start(), int64(steps), found[:many], true)
	}
	checkTerms(t, sums(), start(), 20, found, true)
	w := walkOf(start(), impl.Step{At: 0, Rule: 1, To: found[1]}, impl.Step{At: 1, Rule: 0, To: found[3]}, impl.Step{At: 1, Rule: 0, To: found[4]})
	for _, steps := range someDepths(3) {
		checkReached(t, sums(), start(), w, steps)
		if got := impl.NormalsOf(sums(), start(), steps); !equalTerms(got, [][]int64{{1, 2}}) {
			t.Error("NormalsOf", steps, got)
		}
	}
	checkNotReached(t, sums(), start(), []int64{1, 2}, 2)
	if got := impl.NormalsOf(sums(), start(), 2); len(got) != 0 {
		t.Error("NormalsOf", got)
	}
	if impl.MaxReach != 60 || impl.MaxDeep != 20 {
		t.Error(impl.MaxReach, impl.MaxDeep)
	}
}

// No step is made, and the walk to the term itself has none, also if a step leads
// from it to itself.
func TestNoSteps(t *testing.T) {
	for _, sys := range []impl.System{sums(), systemOf(), bookOf(swap(), grow(), stay()).system(), many(12, []int64{2}, []int64{2})} {
		for _, nums := range append(someTerms(), start(), nested(59), []int64{0, 2, 2}) {
			checkTerms(t, sys, nums, 0, [][]int64{nums}, true)
			for _, steps := range someDepths(0) {
				checkReached(t, sys, nums, resting(nums), steps)
			}
			checkNotReached(t, sys, nums, append([]int64{1}, nums[:len(nums)-1]...), 0)
		}
	}
	checkTerms(t, systemOf([]int64{2}, []int64{2}), []int64{1, 2}, 20, [][]int64{{1, 2}}, true)
	checkTerms(t, bookOf(swap()).system(), []int64{0, -1, -1}, 20, [][]int64{{0, -1, -1}}, true)
	checkTerms(t, systemOf(), start(), 20, [][]int64{start()}, true)
}

// The results for each term found are in the order of its steps, and behind all
// results for the terms found before.
func TestBreadthFirstOrder(t *testing.T) {
	fork := impl.System{Sig: five(), Rules: rulesOf([][]int64{{2}, {4}, {2}, {3}, {3}, {6}, {4}, {5}, {5}, {3}, {3}, {1, 2}})}
	choice := systemOf([]int64{0, -1, -2}, []int64{-2}, []int64{0, -1, -2}, []int64{-1}, []int64{1, -1}, []int64{-1})
	cases := []struct {
		sys   impl.System
		nums  []int64
		steps int64
		want  [][]int64
	}{
		// The smallest rule is first, though the rules are not sorted, and so is
		// each term found, though a walk to another one is longer.
		{fork, []int64{2}, 1, [][]int64{{2}, {4}, {3}}},
		{fork, []int64{2}, 2, [][]int64{{2}, {4}, {3}, {5}, {6}, {1, 2}}},
		{fork, []int64{2}, 3, [][]int64{{2}, {4}, {3}, {5}, {6}, {1, 2}, {1, 4}, {1, 3}}},
		{fork, []int64{4}, 4, [][]int64{{4}, {5}, {3}, {6}, {1, 2}, {1, 4}, {1, 3}}},
		// The smallest position is first, then the smallest rule.
		{choice, []int64{0, 1, 2, -1}, 1, [][]int64{{0, 1, 2, -1}, {-1}, {1, 2}, {0, 2, -1}}},
		{choice, []int64{0, 1, 2, -1}, 9, [][]int64{{0, 1, 2, -1}, {-1}, {1, 2}, {0, 2, -1}, {2}}},
		{choice, []int64{0, 1, 2, 1, -1}, 1, [][]int64{{0, 1, 2, 1, -1}, {1, -1}, {1, 2}, {0, 2, 1, -1}, {0, 1, 2, -1}}},
		{choice, []int64{0, 1, 2, 1, -1}, 2, [][]int64{{0, 1, 2, 1, -1}, {1, -1}, {1, 2}, {0, 2, 1, -1}, {0, 1, 2, -1}, {-1}, {2}, {0, 2, -1}}},
		{bookOf(swap()).system(), []int64{0, 0, -1, -2, -3}, 20, [][]int64{{0, 0, -1, -2, -3}, {0, -3, 0, -1, -2}, {0, 0, -2, -1, -3}, {0, -3, 0, -2, -1}}},
		// Shorter and longer terms as they come.
		{bookOf(grow(), shrink()).system(), []int64{1, -1}, 2, [][]int64{{1, -1}, {1, 1, -1}, {-1}, {1, 1, 1, -1}}},
		{bookOf(shrink(), grow()).system(), []int64{1, -1}, 2, [][]int64{{1, -1}, {-1}, {1, 1, -1}, {1, 1, 1, -1}}},
	}
	for _, c := range cases {
		checkTerms(t, c.sys, c.nums, c.steps, c.want, true)
	}
}

// Of more than one way to a term the one by which it is found first counts, and
// of its steps the first one that leads there.
func TestTwoWaysToOneTerm(t *testing.T) {
	// From 2 to 6 by 3 or 4, and to 4 in one step or in two.
	diamond := impl.System{Sig: five(), Rules: rulesOf([][]int64{{2}, {4}, {2}, {3}, {3}, {6}, {4}, {6}, {3}, {4}})}
	detour := impl.System{Sig: five(), Rules: rulesOf([][]int64{{2}, {3}, {3}, {4}, {4}, {5}, {2}, {5}, {5}, {6}})}
	same := systemOf([]int64{1, 2}, []int64{2}, []int64{1, -1}, []int64{-1}, []int64{1, 1, -1}, []int64{1, -1})
	cases := []struct {
		sys impl.System
		w   impl.Walk
	}{
		{diamond, walkOf([]int64{2}, impl.Step{Rule: 0, To: []int64{4}}, impl.Step{Rule: 3, To: []int64{6}})},
		{diamond, walkOf([]int64{2}, impl.Step{Rule: 0, To: []int64{4}})},
		{diamond, walkOf([]int64{3}, impl.Step{Rule: 2, To: []int64{6}})},
		{diamond, walkOf([]int64{1, 2}, impl.Step{At: 1, Rule: 0, To: []int64{1, 4}}, impl.Step{At: 1, Rule: 3, To: []int64{1, 6}})},
		{detour, walkOf([]int64{2}, impl.Step{Rule: 3, To: []int64{5}}, impl.Step{Rule: 4, To: []int64{6}})},
		{detour, walkOf([]int64{2}, impl.Step{Rule: 0, To: []int64{3}}, impl.Step{Rule: 1, To: []int64{4}})},
		// Another position, or another rule.
		{bookOf(shrink()).system(), walkOf([]int64{1, 1, 1, -1}, impl.Step{To: []int64{1, 1, -1}}, impl.Step{To: []int64{1, -1}}, impl.Step{To: []int64{-1}})},
		{same, walkOf([]int64{1, 1, 2}, impl.Step{At: 0, Rule: 1, To: []int64{1, 2}}, impl.Step{At: 0, Rule: 0, To: []int64{2}})},
		{same, walkOf([]int64{0, 1, 2, 1, 2}, impl.Step{At: 1, Rule: 0, To: []int64{0, 2, 1, 2}}, impl.Step{At: 2, Rule: 0, To: []int64{0, 2, 2}})},
		{many(12, []int64{1, -1}, []int64{-1}), walkOf([]int64{0, -1, 1, 2}, impl.Step{At: 2, Rule: 0, To: []int64{0, -1, 2}})},
	}
	for _, c := range cases {
		for _, steps := range someDepths(int64(len(c.w.Steps))) {
			checkReached(t, c.sys, c.w.From, c.w, steps)
		}
		if len(c.w.Steps) > 0 {
			checkNotReached(t, c.sys, c.w.From, endOfSteps(c.w), int64(len(c.w.Steps))-1)
		}
	}
}

func TestTermsThatAreNotReached(t *testing.T) {
	cases := []struct {
		sys     impl.System
		nums, u []int64
	}{
		{sums(), start(), []int64{2}},
		{sums(), start(), []int64{1, -1}},
		{sums(), []int64{0, 2, -1}, []int64{-2}}, // a variant
		{sums(), []int64{0, 2, -1}, []int64{2}},  // an instance
		{sums(), []int64{1, 2}, start()},         // the other way round
		{sums(), []int64{1, 0, 2, -1}, []int64{-1}},
		{sums(), []int64{1, 0, 2, 2}, []int64{0, 2, 2}}, // a part
		{systemOf(), []int64{2}, []int64{-1}},
		{bookOf(shrink()).system(), nested(21), nested(60)},
		{bookOf(swap()).system(), []int64{0, -1, -2}, []int64{0, -1, -1}},
	}
	for _, c := range cases {
		for _, steps := range someDepths(0) {
			checkNotReached(t, c.sys, c.nums, c.u, steps)
		}
	}
	// Only more steps would reach it.
	for long := 1; long <= 59; long++ {
		sys, nums := countdown(long)
		for _, steps := range []int64{0, 1, int64(long) - 1, int64(long), 20} {
			if steps > 20 {
				continue
			}
			_, is := impl.WalkTo(sys, nums, []int64{3}, steps)
			if is != (int64(long) <= steps) || (len(impl.NormalsOf(sys, nums, steps)) == 1) != is {
				t.Fatal(long, steps, is)
			}
			if !is {
				checkNotReached(t, sys, nums, []int64{3}, steps)
			}
		}
	}
}

// Exactly as many steps as MaxDeep, and one more.
func TestDeepestSteps(t *testing.T) {
	for steps := int64(-3); steps <= 24; steps++ {
		sys, nums := countdown(30)
		if steps < 0 || steps > 20 {
			checkNoReach(t, sys, nums, nums, steps)
			continue
		}
		var want [][]int64
		w := resting(nums)
		for i := range steps + 1 {
			want = append(want, nums[i:])
			if i > 0 {
				w.Steps = append(w.Steps, impl.Step{To: nums[i:]})
			}
		}
		checkTerms(t, sys, nums, steps, want, true)
		checkReached(t, sys, nums, w, steps)
		checkNotReached(t, sys, nums, nums[steps+1:], steps)
	}
}

// tailsOf lists the terms that are reached in the system tails, in order.
func tailsOf(high int, steps int) [][]int64 {
	found := [][]int64{{0}}
	for i := range steps {
		for symbol := int64(2); symbol <= 4; symbol++ {
			size := i
			if symbol == 4 {
				size = high - i
			}
			if size >= 0 {
				found = append(found, append(append([]int64{symbol}, slices.Repeat([]int64{5}, size)...), 1))
			}
		}
	}
	return found
}

// Exactly MaxReach terms are all of them. With one more there are the first ones,
// and the last one is not found.
func TestMostTerms(t *testing.T) {
	for high, many := range map[int]int{16: 58, 17: 59, 18: 60, 19: 61} {
		want := tailsOf(high, 20)
		if len(want) != many {
			t.Fatal(high, len(want))
		}
		checkTerms(t, tails(high), []int64{0}, 20, want[:min(60, many)], many <= 60)
		last, is := impl.WalkTo(tails(high), []int64{0}, []int64{4, 1}, 20)
		if is != (many <= 60) || is && len(last.Steps) != high+1 || !is && !isZeroWalk(last) {
			t.Error(high, last, is)
		}
		// The normal form is the last one of the terms of its layer.
		if got := impl.NormalsOf(tails(high), []int64{0}, 20); len(got) != min(1, 61-many) {
			t.Error(high, got)
		}
	}
	checkNotReached(t, tails(19), []int64{0}, []int64{4, 1}, 20)
	checkTerms(t, tails(19), []int64{0}, 19, tailsOf(19, 19), true)
	// All of them in a few steps: towers with these heights.
	for _, c := range []struct {
		heights []int
		most    int
	}{{[]int{5, 9}, 60}, {[]int{3, 14}, 60}, {[]int{2, 3, 4}, 60}, {[]int{1, 1, 14}, 60}, {[]int{1, 1, 2, 4}, 60}, {[]int{6, 8}, 63}, {[]int{1, 1, 15}, 64}, {[]int{1, 1, 1, 1, 1, 1}, 64}, {[]int{4, 4, 4, 4}, 625}} {
		s := checkSpread(t, bookOf(shrink()), towers(c.heights...), 20)
		if len(s.trails) != min(60, c.most) || s.all != (c.most <= 60) {
			t.Error(c.heights, len(s.trails), s.all)
		}
	}
}

// With more than MaxReach terms the number of steps does not matter any more.
func TestTooManyTerms(t *testing.T) {
	b, x := bookOf(double()), row(tower(3, variable(0)), tower(3, variable(1)), tower(3, variable(2)))
	first := checkSpread(t, b, x, 20)
	if first.all || len(first.trails) != 60 {
		t.Fatal(len(first.trails))
	}
	for _, steps := range someDepths(3) {
		s := checkSpread(t, b, x, steps)
		if s.all || !equalTerms(s.terms(), first.terms()) {
			t.Fatal(steps, s.terms())
		}
	}
	// After one step already, by two rules at each of so many places.
	for places, all := range map[int]bool{28: true, 29: true, 30: false} {
		sys, nums := impl.System{Sig: five(), Rules: rulesOf([][]int64{{2}, {3}, {2}, {4}})}, []int64{2}
		for range places - 1 {
			nums = append([]int64{0, 2}, nums...)
		}
		want := [][]int64{nums}
		for at, n := range nums {
			if n == 2 {
				want = append(want, slices.Concat(nums[:at], []int64{3}, nums[at+1:]), slices.Concat(nums[:at], []int64{4}, nums[at+1:]))
			}
		}
		checkTerms(t, sys, nums, 1, want[:min(60, len(want))], all)
		checkReached(t, sys, nums, walkOf(nums, impl.Step{At: int64(len(nums)) - 1, Rule: 0, To: want[len(want)-2]}), 1)
		if !all {
			checkNotReached(t, sys, nums, want[60], 1)
			checkNotReached(t, sys, nums, want[60], 20)
		}
	}
}

// A step that would be too long is not made, and a term with a redex is not a
// normal form, though no step is made from it.
func TestStepsThatAreTooLongAreLeftOut(t *testing.T) {
	growing := bookOf(grow()).system()
	for size := 41; size <= 60; size++ {
		var want [][]int64
		for longer := size; longer <= 60; longer++ {
			want = append(want, nested(longer))
		}
		checkTerms(t, growing, nested(size), 20, want, true)
		if got := impl.NormalsOf(growing, nested(size), 20); len(got) != 0 {
			t.Fatal(size, got)
		}
		checkTerms(t, growing, nested(size), int64(60-size), want, true)
	}
	// One step is too long, another one is not.
	checkTerms(t, bookOf(grow(), shrink()).system(), nested(60), 2, [][]int64{nested(60), nested(59), nested(58)}, true)
	// The result may have 60 numbers, not 61, and not 63.
	leaves := func(many int) []int64 { return row(several(many, variable)...).notation() }
	copying := impl.System{Sig: impl.Sig{Arity: []int64{2, 1, 0, 1}}, Rules: rulesOf([][]int64{{3, -1}, {1, 0, -1, -1}, {3, 1, -1}, {1, 1, 0, -1, -1}})}
	fits, long, longer := append([]int64{3}, leaves(15)...), append([]int64{3, 1}, leaves(15)...), append([]int64{3}, leaves(16)...)
	checkTerms(t, copying, fits, 20, [][]int64{fits, slices.Concat([]int64{1, 0}, leaves(15), leaves(15))}, true)
	for _, nums := range [][]int64{long, longer} {
		checkTerms(t, copying, nums, 20, [][]int64{nums}, true)
		if got := impl.NormalsOf(copying, nums, 20); len(got) != 0 {
			t.Fatal(nums, got)
		}
	}
	// One place is too long, the other one is not, until both are.
	doubling := bookOf(double())
	beside := onTwo(onOne(row(several(15, variable)...)), onOne(row(several(3, variable)...)))
	s := checkSpread(t, doubling, beside, 20)
	if len(s.trails) != 2 || len(s.normals(doubling)) != 0 || s.trails[1].moves[0].at != 31 {
		t.Fatal(len(s.trails))
	}
}

// Normal forms are in the order in which they are found, each once.
func TestOrderOfNormalForms(t *testing.T) {
	early := impl.System{Sig: five(), Rules: rulesOf([][]int64{{2}, {3}, {2}, {6}, {3}, {5}, {3}, {4}, {2}, {4}})}
	choice := systemOf([]int64{0, -1, -2}, []int64{-1}, []int64{0, -1, -2}, []int64{-2})
	cases := []struct {
		sys   impl.System
		nums  []int64
		steps int64
		want  [][]int64
	}{
		{early, []int64{2}, 0, nil},
		{early, []int64{2}, 1, [][]int64{{6}, {4}}},
		{early, []int64{2}, 2, [][]int64{{6}, {4}, {5}}},
		{early, []int64{3}, 2, [][]int64{{5}, {4}}},
		{early, []int64{5}, 0, [][]int64{{5}}},
		{early, []int64{5}, 20, [][]int64{{5}}},
		{choice, []int64{0, 2, 1, 2}, 4, [][]int64{{2}, {1, 2}}},
		{choice, []int64{0, 1, 2, 2}, 4, [][]int64{{1, 2}, {2}}},
		{choice, []int64{0, 0, -3, -2, -1}, 1, [][]int64{{-1}}},
		{choice, []int64{0, 0, -3, -2, -1}, 2, [][]int64{{-1}, {-3}, {-2}}},
		{choice, []int64{0, -1, 0, -2, -1}, 2, [][]int64{{-1}, {-2}}},
		{sums(), []int64{0, -1, 0, 2, 2}, 20, [][]int64{{0, -1, 2}}},
		{bookOf(swap()).system(), []int64{0, -1, -2}, 20, nil},
		{bookOf(stay()).system(), []int64{2}, 20, nil},
		{systemOf(), start(), 0, [][]int64{start()}},
	}
	for _, c := range cases {
		if got := impl.NormalsOf(c.sys, c.nums, c.steps); !equalTerms(got, c.want) {
			t.Error(c.sys, c.nums, c.steps, got)
		}
	}
}

// checkNoReach checks that every function returns its zero value for two terms,
// one of which may be valid.
func checkNoReach(t *testing.T, sys impl.System, a, b []int64, steps int64) {
	t.Helper()
	for range 2 {
		if w, is := impl.WalkTo(sys, a, b, steps); is || !isZeroWalk(w) {
			t.Fatal("WalkTo", sys, a, b, steps, w)
		}
		checkNoJoin(t, sys, a, b, steps)
		a, b = b, a
	}
	terms, all := impl.ReachOf(sys, a, steps)
	if normals := impl.NormalsOf(sys, a, steps); all || len(terms)+len(normals) != 0 {
		t.Fatal(sys, a, steps, terms, normals)
	}
	checkLength(t, sys, a, steps, -1)
}
