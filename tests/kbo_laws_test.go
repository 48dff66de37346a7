package tests

import (
	"testing"

	"loop.example/g00895/impl"
)

func TestKboIsAnOrder(t *testing.T) {
	triples := 0
	for _, a := range weighedArenas(makerOf(81), []int64{-1, -2}, 4) {
		triples += a.scale.order().checkLaws(t, a.arena)
	}
	if triples < 100000 {
		t.Error("too few of the triples test much", triples)
	}
}

// Of long terms too, and of many of them that are alike.
func TestKboOfLongTermsIsAnOrder(t *testing.T) {
	m, triples := makerOf(82), 0
	for range 40 {
		sig := m.book().sig
		w := m.weights(sig)
		triples += scale{w}.order().checkLaws(t, m.longArena(sig, w.Rank))
	}
	if triples < 10000 {
		t.Error("too few of the triples test much", triples)
	}
}

// A term is greater than its subterms, even if what is around them weighs nothing.
func TestSubtermsAreLessByKbo(t *testing.T) {
	m := makerOf(83)
	for _, a := range weighedArenas(m, []int64{-1, -2}, 4) {
		a.scale.order().checkSubtermsAreLess(t, a.arena)
	}
	for _, w := range []impl.Weights{light(), hollow(), even(), m.weights(abc()), m.weights(abc())} {
		scale{w}.order().checkSubtermsAreLess(t, arena{abc(), deepTrees(), w.Rank})
	}
	for range 200 {
		sig := m.book().sig
		w := m.weights(sig)
		scale{w}.order().checkSubtermsAreLess(t, arena{sig, []tree{m.tree(sig, 2+m.Int64N(59))}, w.Rank})
	}
}

// Of two different terms without variables, exactly one is less.
func TestKboIsTotalWithoutVariables(t *testing.T) {
	m, pairs := makerOf(84), 0
	check := func(sig impl.Sig, w impl.Weights, x, y tree) {
		scale{w}.order().checkOneIsLess(t, sig, w.Rank, x, y)
		pairs++
	}
	for _, a := range weighedArenas(m, nil, 5) {
		for i, x := range a.trees {
			for _, y := range a.trees[i:] {
				check(a.sig, a.scale.Weights, x, y)
			}
		}
	}
	c := tree{head: 2}
	f := filling{0: c, 10: onOne(c), 20: c}
	for range 400 {
		w, x := m.weights(abc()), m.tree(abc(), 2+m.Int64N(50)).filled(f)
		y, z := m.gathered(abc(), x), m.gathered(abc(), x)
		if max(x.size(), y.size(), z.size()) <= impl.MaxTerm {
			check(abc(), w, x, y)
			check(abc(), w, y, z)
			check(abc(), w, z, z.mirrored())
		}
	}
	if pairs < 20000 {
		t.Error("too few of the pairs test much", pairs)
	}
}

// P14 for all pairs of small terms: under many substitutions and inside small terms.
func TestKboIsClosed(t *testing.T) {
	m := makerOf(85)
	var n closures
	for _, a := range weighedArenas(m, []int64{-1, -2}, 4) {
		n.checkClosed(t, m, a.scale.order(), a.arena)
	}
	if n.filled < 80000 || n.inside < 80000 {
		t.Error("too few of the pairs test much", n)
	}
}

// P14 with every filling and inside every term of few numbers, for the example's
// signature and smaller pairs.
func TestKboIsClosedEverywhere(t *testing.T) {
	images := smallTrees([]int64{-1, -2}, 3)
	fillings := fillingsOf([]int64{0, 1}, images[:6])
	for _, a := range weighedOf(abc(), images, fairWeights(abc(), 2)) {
		a.scale.order().checkClosedEverywhere(t, a.arena, fillings)
	}
}

// P14 for long terms, up to MaxTerm numbers.
func TestKboOfLongTermsIsClosed(t *testing.T) {
	m := makerOf(86)
	var n closures
	for range 3000 {
		sig := m.book().sig
		w := m.weights(sig)
		n.checkLongClosed(t, m, scale{w}.order(), arena{sig: sig, rank: w.Rank})
	}
	if n.filled < 200 || n.inside < 2000 {
		t.Error("too few of the pairs test much", n)
	}
}

// Some pairs for which the closure needs one of the demands on weights: a variable is
// replaced by the lightest constant, or what weighs nothing is around it.
func TestKboIsClosedAtTheEdges(t *testing.T) {
	x, y, c := variable(0), variable(1), tree{head: 2}
	heavy := weightsOf(20, []int64{20, 0, 20}, 1, 2, 0)
	cases := []struct {
		w          impl.Weights
		less, more tree
		f          filling
	}{
		{hollow(), x, onOne(x), filling{0: onOne(variable(5))}},
		{hollow(), x, onOne(x), filling{0: c}},
		{hollow(), x, tower(3, x), filling{0: onTwo(variable(5), c)}},
		{hollow(), onTwo(x, y), onTwo(onOne(x), y), filling{0: y}},
		{hollow(), x, tower(2, x), filling{0: tower(57, variable(23))}},
		{heavy, x, onOne(x), filling{0: c}},
		{heavy, onTwo(c, c), onOne(onTwo(x, x)), filling{0: c}},
		{heavy, onTwo(x, c), onOne(onTwo(x, y)), filling{1: c, 0: c}},
		{light(), onOne(x), onTwo(x, y), filling{1: c}},
		{light(), onOne(c), onTwo(x, y), filling{0: c, 1: c}},
		{light(), onTwo(x, onTwo(y, c)), onTwo(onTwo(x, y), c), filling{0: c, 1: onTwo(c, c)}},
		{even(), x, onOne(x), filling{0: tower(58, variable(23))}},
	}
	for i, z := range cases {
		o, a := scale{z.w}.order(), arena{sig: abc(), rank: z.w.Rank}
		if !o.less(a.sig, a.rank, z.less.notation(), z.more.notation()) || !o.checkFilled(t, a, z.less, z.more, z.f) {
			t.Error(i)
		}
		for _, around := range []tree{onTwo(z.less, x), onTwo(z.more, x), onTwo(x, z.less), onTwo(z.less, z.more), onTwo(z.more, z.less), tower(3, x)} {
			if o.checkInContexts(t, a, z.less, z.more, around) != int(around.size()) {
				t.Error(i)
			}
		}
	}
}
