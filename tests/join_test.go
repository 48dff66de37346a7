package tests

import (
	"testing"

	"loop.example/g00895/impl"
)

// checkJoins checks that v and w are the walks by which two terms are joined, and
// P9: they are rewrite sequences from the two terms to one term.
func checkJoins(t *testing.T, sys impl.System, v, w impl.Walk, steps int64) {
	t.Helper()
	a, b := v.From, w.From
	gotA, gotB, is := impl.JoinOf(sys, a, b, steps)
	if !is || !equalWalks(gotA, v) || !equalWalks(gotB, w) {
		t.Fatal("JoinOf", sys, a, b, steps, gotA, gotB, is)
	}
	checkSequence(t, sys, a, endOfSteps(w), gotA, steps)
	checkSequence(t, sys, b, endOfSteps(v), gotB, steps)
	if !impl.JoinsIn(sys, a, b, steps) || !impl.JoinsIn(sys, b, a, steps) {
		t.Fatal("JoinsIn", sys, a, b, steps, gotA, gotB)
	}
	checkReached(t, sys, a, v, steps)
	checkReached(t, sys, b, w, steps)
}

// checkNoJoin checks that two terms are not joined, in both orders.
func checkNoJoin(t *testing.T, sys impl.System, a, b []int64, steps int64) {
	t.Helper()
	for range 2 {
		if v, w, is := impl.JoinOf(sys, a, b, steps); is || !isZeroWalk(v) || !isZeroWalk(w) || impl.JoinsIn(sys, a, b, steps) {
			t.Fatal(sys, a, b, steps, v, w, is)
		}
		a, b = b, a
	}
}

// checkMeeting checks what the functions say of x and y, and returns whether they
// are joined.
func checkMeeting(t *testing.T, b book, x, y tree, steps int64) bool {
	t.Helper()
	there, back, is := b.spread(x, steps).meeting(b.spread(y, steps))
	if is {
		checkJoins(t, b.system(), there.walk(), back.walk(), steps)
	} else {
		checkNoJoin(t, b.system(), x.notation(), y.notation(), steps)
	}
	return is
}

func TestExamplesOfJoins(t *testing.T) {
	v := walkOf([]int64{1, 0, 2, 0, 2, 2}, impl.Step{At: 1, Rule: 0, To: []int64{1, 0, 2, 2}})
	w := walkOf([]int64{0, 1, 2, 2}, impl.Step{At: 0, Rule: 1, To: []int64{1, 0, 2, 2}})
	for _, steps := range someDepths(1) {
		checkJoins(t, sums(), v, w, steps)
		checkJoins(t, sums(), w, v, steps)
	}
	checkNoJoin(t, sums(), v.From, w.From, 0)
	if !impl.JoinsIn(sums(), start(), []int64{1, 2}, 3) || impl.JoinsIn(sums(), start(), []int64{1, 2}, 2) {
		t.Error("JoinsIn")
	}
}

// The common term may be the first one, the second one, or one that both reach,
// by the same number of steps or not.
func TestWhereTermsAreJoined(t *testing.T) {
	down := impl.System{Sig: five(), Rules: rulesOf([][]int64{{2}, {3}, {3}, {4}, {4}, {5}, {6}, {5}})}
	three := impl.Step{Rule: 0, To: []int64{3}}
	four := impl.Step{Rule: 1, To: []int64{4}}
	last := impl.Step{Rule: 2, To: []int64{5}}
	other := impl.Step{Rule: 3, To: []int64{5}}
	cases := []struct {
		v, w  impl.Walk
		least int64
	}{
		{resting([]int64{2}), resting([]int64{2}), 0},
		{resting([]int64{5}), resting([]int64{5}), 0},
		{resting([]int64{-1}), resting([]int64{-1}), 0},
		{resting([]int64{3}), walkOf([]int64{2}, three), 1},
		{resting([]int64{4}), walkOf([]int64{2}, three, four), 2},
		{resting([]int64{5}), walkOf([]int64{2}, three, four, last), 3},
		{walkOf([]int64{2}, three), resting([]int64{3}), 1},
		{walkOf([]int64{2}, three, four), resting([]int64{4}), 2},
		{walkOf([]int64{2}, three, four, last), resting([]int64{5}), 3},
		{walkOf([]int64{4}, last), walkOf([]int64{6}, other), 1},
		{walkOf([]int64{6}, other), walkOf([]int64{4}, last), 1},
		{walkOf([]int64{3}, four, last), walkOf([]int64{6}, other), 2},
		{walkOf([]int64{6}, other), walkOf([]int64{2}, three, four, last), 3},
		{walkOf([]int64{2}, three, four, last), walkOf([]int64{6}, other), 3},
	}
	for _, c := range cases {
		for _, steps := range someDepths(0) {
			if steps < c.least {
				checkNoJoin(t, down, c.v.From, c.w.From, steps)
			} else {
				checkJoins(t, down, c.v, c.w, steps)
			}
		}
	}
}

// Of more than one common term the first one from the first term counts.
func TestFirstCommonTerm(t *testing.T) {
	cross := impl.System{Sig: five(), Rules: rulesOf([][]int64{{2}, {4}, {2}, {5}, {3}, {5}, {3}, {4}})}
	checkJoins(t, cross, walkOf([]int64{2}, impl.Step{Rule: 0, To: []int64{4}}), walkOf([]int64{3}, impl.Step{Rule: 3, To: []int64{4}}), 1)
	checkJoins(t, cross, walkOf([]int64{3}, impl.Step{Rule: 2, To: []int64{5}}), walkOf([]int64{2}, impl.Step{Rule: 1, To: []int64{5}}), 1)
	// It may be far from the second term, though another one is near.
	far := impl.System{Sig: five(), Rules: rulesOf([][]int64{{2}, {4}, {4}, {6}, {3}, {6}, {6}, {5}, {5}, {4}})}
	walk := walkOf([]int64{3}, impl.Step{Rule: 2, To: []int64{6}}, impl.Step{Rule: 3, To: []int64{5}}, impl.Step{Rule: 4, To: []int64{4}})
	checkNoJoin(t, far, []int64{2}, []int64{3}, 1)
	checkJoins(t, far, walkOf([]int64{2}, impl.Step{Rule: 0, To: []int64{4}}, impl.Step{Rule: 1, To: []int64{6}}), walkOf([]int64{3}, impl.Step{Rule: 2, To: []int64{6}}), 2)
	checkJoins(t, far, walkOf([]int64{2}, impl.Step{Rule: 0, To: []int64{4}}), walk, 3)
	checkJoins(t, far, walkOf([]int64{3}, impl.Step{Rule: 2, To: []int64{6}}), walkOf([]int64{2}, impl.Step{Rule: 0, To: []int64{4}}, impl.Step{Rule: 1, To: []int64{6}}), 3)
	// A term that reaches itself is joined with itself by no step.
	for _, nums := range [][]int64{{0, -1, -2}, {0, -2, -1}} {
		checkJoins(t, bookOf(swap()).system(), resting(nums), resting(nums), 20)
	}
	checkJoins(t, bookOf(swap()).system(), resting([]int64{0, -1, -2}), walkOf([]int64{0, -2, -1}, impl.Step{To: []int64{0, -1, -2}}), 1)
}

func TestTermsThatAreNotJoined(t *testing.T) {
	cases := []struct {
		sys  impl.System
		a, b []int64
	}{
		{sums(), start(), []int64{2}},
		{sums(), []int64{-1}, []int64{-2}},
		{sums(), []int64{0, 2, -1}, []int64{0, 2, -2}},
		{sums(), []int64{0, -1, 2}, []int64{-1}},
		{systemOf(), []int64{2}, []int64{1, 2}},
		{systemOf([]int64{2}, []int64{1, 2}), []int64{2}, []int64{-1}},
		{bookOf(swap()).system(), []int64{0, -1, -2}, []int64{0, -1, -1}},
		{bookOf(grow()).system(), []int64{1, -1}, []int64{1, -2}},
		// Both are reached from one term.
		{systemOf([]int64{0, -1, -2}, []int64{-1}, []int64{0, -1, -2}, []int64{-2}), []int64{2}, []int64{1, 2}},
	}
	for _, c := range cases {
		for _, steps := range someDepths(0) {
			checkNoJoin(t, c.sys, c.a, c.b, steps)
		}
	}
	// Only more steps would join them, from one side or from both.
	sys, nums := countdown(40)
	for steps := range int64(21) {
		for _, cut := range []int64{0, 1, max(1, steps) - 1, steps, steps + 1, steps + 2, 2 * steps, 40} {
			if cut > steps {
				checkNoJoin(t, sys, nums, nums[cut:], steps)
			} else {
				w, _ := impl.WalkTo(sys, nums, nums[cut:], steps)
				checkJoins(t, sys, w, resting(nums[cut:]), steps)
			}
		}
	}
	// The terms that ReachOf leaves out do not count.
	checkNoJoin(t, tails(19), []int64{0}, []int64{4, 1}, 20)
	checkNoJoin(t, tails(19), []int64{0}, []int64{4, 5, 1}, 18)
	if !impl.JoinsIn(tails(19), []int64{0}, []int64{4, 5, 1}, 19) || !impl.JoinsIn(tails(18), []int64{0}, []int64{4, 1}, 20) || !impl.JoinsIn(tails(19), []int64{0}, []int64{4, 5, 1}, 20) {
		t.Error("tails")
	}
}

func TestJoinsOfSmallTerms(t *testing.T) {
	joined, not := 0, 0
	trees := smallTrees([]int64{-1, -24}, 3)
	for _, b := range booksOf(abc(), append(someRulings(), swap()), 1) {
		for _, x := range trees {
			for _, y := range trees {
				for _, steps := range []int64{0, 1, 3} {
					if checkMeeting(t, b, x, y, steps) {
						joined++
					} else {
						not++
					}
				}
			}
		}
	}
	if joined < 500 || not < 5000 {
		t.Error("too few of the terms test much", joined, not)
	}
}

// Two terms that are reached from one, in any system, or that are alike.
func TestJoinsOfLongTerms(t *testing.T) {
	m, joined, not := makerOf(31), 0, 0
	for range 200 {
		b := m.anyBook()
		x := m.bed(b, 1+m.Int64N(24))
		y, z := m.trail(b, x, 1+m.IntN(3)).last(), m.trail(b, x, m.IntN(4)).last()
		if y.isSame(z) {
			continue
		}
		if checkMeeting(t, b, y, z, m.Int64N(5)) {
			joined++
		} else {
			not++
		}
	}
	if joined < 40 || not < 40 {
		t.Error("too few of the terms test much", joined, not)
	}
}
