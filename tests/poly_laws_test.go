package tests

import (
	"slices"
	"testing"

	"loop.example/g00895/impl"
)

// order is PolyLess, for the terms that have forms.
func (v valuation) order() termOrder {
	return termOrder{
		name:    "PolyLess",
		less:    func(sig impl.Sig, rank, s, t []int64) bool { return impl.PolyLess(sig, v, s, t) },
		orients: func(sys impl.System, rank []int64) bool { return impl.PolyOrients(sys, v) },
		takes:   v.hasForm,
	}
}

// weakOrder is PolyAtMost, for the terms that have forms.
func (v valuation) weakOrder() termOrder {
	return termOrder{
		name:    "PolyAtMost",
		less:    func(sig impl.Sig, rank, s, t []int64) bool { return impl.PolyAtMost(sig, v, s, t) },
		orients: func(sys impl.System, rank []int64) bool { return impl.PolyAllows(sys, v) },
		takes:   v.hasForm,
	}
}

func (v valuation) hasForm(sig impl.Sig, nums []int64) bool {
	_, is := impl.FormOf(sig, v, nums)
	return is
}

func (a valued) arena() arena { return arena{sig: a.sig, trees: a.trees} }

// checkPolyLaws checks that less implies at most, that no two are each at most the other
// and less, and that what is at most a lesser one is less.
func checkPolyLaws(t *testing.T, a valued) int {
	t.Helper()
	less, atMost, triples := a.v.order().table(a.arena()), a.v.weakOrder().table(a.arena()), 0
	for x := range a.trees {
		if less[x][x] || atMost[x][x] != a.v.hasForm(a.sig, a.trees[x].notation()) {
			t.Fatal(a.sig, a.v, a.trees[x].notation())
		}
		for y := range a.trees {
			if less[x][y] && (!atMost[x][y] || atMost[y][x]) {
				t.Fatal(a.sig, a.v, a.trees[x].notation(), a.trees[y].notation())
			}
			for z := range a.trees {
				if !atMost[x][y] || !atMost[y][z] {
					continue
				}
				triples++
				if !atMost[x][z] || (less[x][y] || less[y][z]) && !less[x][z] {
					t.Fatal(a.sig, a.v, a.trees[x].notation(), a.trees[y].notation(), a.trees[z].notation())
				}
			}
		}
	}
	return triples
}

func TestPolyOrdersAreOrders(t *testing.T) {
	triples, m := 0, makerOf(102)
	for i, a := range valuedArenas(m, []int64{-1, -2}, 4) {
		if i%6 == 0 || i > 200 {
			triples += checkPolyLaws(t, a)
		}
	}
	for i := range 40 {
		sig := m.book().sig
		triples += checkPolyLaws(t, valued{sig, m.longArena(sig, nil).trees, m.valuation(sig, leasts()[i%4])})
	}
	if triples < 100000 {
		t.Error("too few of the triples test much", triples)
	}
}

// With strict interpretations subterms are at most the term, and by the sizes less.
func TestSubtermsAreLessByPolys(t *testing.T) {
	m := makerOf(103)
	check := func(sig impl.Sig, trees []tree) {
		v := valuation(impl.SizePolys(sig))
		v.order().checkSubtermsAreLess(t, arena{sig: sig, trees: trees})
		v = m.valuation(sig, 1)
		for _, x := range trees {
			for _, s := range x.spots() {
				if v.hasForm(sig, x.notation()) && !impl.PolyAtMost(sig, v, s.sub.notation(), x.notation()) {
					t.Fatal(sig, v, s.sub.notation(), x.notation())
				}
			}
		}
	}
	for _, sig := range append(orderedSigs(), abc()) {
		for size := int64(1); size <= 4; size++ {
			check(sig, treesOf(sig, []int64{-1, -2}, size))
		}
	}
	check(abc(), deepTrees())
	for range 100 {
		sig := m.book().sig
		check(sig, []tree{m.tree(sig, 2+m.Int64N(59))})
	}
}

// numbersAt lists the values of each of the trees by each list of values, or -1 for none.
func (a valued) numbersAt(all [][]int64) [][]int64 {
	var found [][]int64
	for _, x := range a.trees {
		var numbers []int64
		for _, values := range all {
			n, is := impl.ValueAt(a.sig, a.v, x.notation(), values)
			if !is {
				n = -1
			}
			numbers = append(numbers, n)
		}
		found = append(found, numbers)
	}
	return found
}

// isKept reports whether a relation of numbers holds for the values of two trees wherever
// both have one, and how often.
func isKept(xs, ys []int64, holds func(x, y int64) bool) (bool, int) {
	checked := 0
	for i, x := range xs {
		if x < 0 || ys[i] < 0 {
			continue
		}
		if !holds(x, ys[i]) {
			return false, checked
		}
		checked++
	}
	return true, checked
}

func isBelow(x, y int64) bool    { return x < y }
func isNotAbove(x, y int64) bool { return x <= y }

// checkOfAllValues checks P15 for all pairs of the trees by lists of values.
func (a valued) checkOfAllValues(t *testing.T, all [][]int64) int {
	t.Helper()
	numbers, checked := a.numbersAt(all), 0
	for i, x := range a.trees {
		for j, y := range a.trees {
			s, u := x.notation(), y.notation()
			isBelowAll, many := isKept(numbers[i], numbers[j], isBelow)
			isAtMostAll, _ := isKept(numbers[i], numbers[j], isNotAbove)
			less, atMost := impl.PolyLess(a.sig, a.v, s, u), impl.PolyAtMost(a.sig, a.v, s, u)
			if less && !isBelowAll || atMost && !isAtMostAll {
				t.Fatal(a.sig, a.v, s, u, less, atMost)
			}
			if less {
				checked += many
			}
		}
	}
	return checked
}

// P15 for all pairs of small terms: what is less has the lesser value by all values of the
// variables.
func TestPolyLessHoldsForAllValues(t *testing.T) {
	m, checked := makerOf(104), 0
	all := [][]int64{nil, {1000}, {0, 1000}}
	for _, values := range slicesOf([]int64{0, 1, 7, 1000}, 2) {
		all = append(all, values)
	}
	for i, a := range valuedArenas(m, []int64{-1, -2}, 4) {
		if i%3 == 0 || i > 200 {
			checked += a.checkOfAllValues(t, append(all, m.someValues()...))
		}
	}
	if checked < 100000 {
		t.Error("too few of the values test much", checked)
	}
}

// P15 for long terms.
func TestPolyLessOfLongTermsHoldsForAllValues(t *testing.T) {
	m, checked := makerOf(105), 0
	for i := range 30 {
		sig := m.book().sig
		a := valued{sig, m.longArena(sig, nil).trees, m.valuation(sig, leasts()[i%3])}
		checked += a.checkOfAllValues(t, append(m.someValues(), m.someValues()...))
	}
	if checked < 10000 {
		t.Error("too few of the values test much", checked)
	}
}

// What holds for all values of the variables is told: a constant or a coefficient that is
// not as told shows if all variables are 0, or if one of them is great.
func TestPolyLessIsWhatHoldsForAllValues(t *testing.T) {
	all := [][]int64{nil, {1000}, {0, 1000}}
	held := map[[2]bool]int{}
	for _, v := range append(lowValuations(), slanted(), sized(), blind()) {
		a := valued{abc(), smallTrees([]int64{-1, -2}, 3), v}
		numbers := a.numbersAt(all)
		for i, x := range a.trees {
			for j, y := range a.trees {
				less, _ := isKept(numbers[i], numbers[j], isBelow)
				atMost, many := isKept(numbers[i], numbers[j], isNotAbove)
				if atMost && many != len(all) {
					t.Fatal("a value is missing", v, x.notation(), y.notation())
				}
				checkPolyOrder(t, "", abc(), v, x.notation(), y.notation(), less, atMost)
				held[[2]bool{less, atMost}]++
			}
		}
	}
	if len(held) != 3 || held[[2]bool{true, true}] < 1000 || held[[2]bool{false, true}] < 1000 {
		t.Error("too few of the pairs test much", held)
	}
}

// P15 for all pairs of small terms: inside small terms, if the interpretation is strict,
// and under many substitutions.
func TestPolyLessIsClosed(t *testing.T) {
	m := makerOf(106)
	var n, w closures
	for i, a := range valuedArenas(m, []int64{-1, -2}, 4) {
		if a.v.isStrict() && (i%2 == 0 || i > 200) {
			n.checkClosed(t, m, a.v.order(), a.arena())
		}
		if i%12 == 0 || i > 200 {
			w.checkClosed(t, m, a.v.weakOrder(), a.arena())
		}
	}
	if min(n.filled, n.inside, w.filled, w.inside) < 50000 {
		t.Error("too few of the pairs test much", n, w)
	}
}

// P15 with every filling and inside every term of few numbers, for the example's signature
// and smaller pairs.
func TestPolyLessIsClosedEverywhere(t *testing.T) {
	images := smallTrees([]int64{-1, -2}, 3)
	fillings := fillingsOf([]int64{0, 1}, images[:6])
	for i, v := range lowValuations() {
		if v.isStrict() && i%3 == 0 {
			v.order().checkClosedEverywhere(t, arena{sig: abc(), trees: images}, fillings)
		}
		if i%18 == 0 {
			v.weakOrder().checkClosedEverywhere(t, arena{sig: abc(), trees: images}, fillings)
		}
	}
}

// Under substitutions PolyLess stays without strictness too.
func TestPolyLessIsClosedUnderFillings(t *testing.T) {
	checked := 0
	images := smallTrees([]int64{-1, -24}, 3)
	fillings := fillingsOf([]int64{0, 1}, images[:6])
	for i, v := range lowValuations() {
		if v.isStrict() || i%3 > 0 {
			continue
		}
		o, a := v.order(), arena{sig: abc(), trees: smallTrees([]int64{-1, -2}, 3)}
		less := o.table(a)
		for i, x := range a.trees {
			for j, y := range a.trees {
				for _, f := range fillings {
					if less[i][j] && o.checkFilled(t, a, x, y, f) {
						checked++
					}
				}
			}
		}
	}
	if checked < 10000 {
		t.Error("too few of the pairs test much", checked)
	}
}

// P15 for long terms, up to MaxTerm numbers.
func TestPolyLessOfLongTermsIsClosed(t *testing.T) {
	m := makerOf(107)
	var n, w closures
	for i := range 3000 {
		sig := m.book().sig
		v := m.valuation(sig, 1+int64(i%2))
		n.checkLongClosed(t, m, v.order(), arena{sig: sig})
		v = m.valuation(sig, int64(i%2))
		w.checkLongClosed(t, m, v.weakOrder(), arena{sig: sig})
	}
	if min(n.filled, w.filled) < 200 || min(n.inside, w.inside) < 2000 {
		t.Error("too few of the pairs test much", n, w)
	}
}

// Without strictness less becomes at most inside of a term, where a coefficient is 0.
func TestPolyLessNeedsStrictnessInsideTerms(t *testing.T) {
	x, c := variable(0), tree{head: 2}
	less, more := c.notation(), onOne(c).notation()
	for _, z := range []struct {
		v      valuation
		around tree
		at     int64
	}{
		{blind(), onTwo(x, c), 2},
		{blind(), onTwo(x, onOne(x)), 3},
		{valuation{polyOf(0, 0, 1), polyOf(1, 1), polyOf(0)}, onTwo(x, c), 1},
		{valuation{polyOf(0, 1, 1), polyOf(1, 0), polyOf(0)}, onTwo(onOne(x), c), 2},
		{valuation{polyOf(9, 0, 0), polyOf(1, 1), polyOf(0)}, onOne(onTwo(x, c)), 3},
	} {
		s, _ := impl.PutAt(abc(), z.around.notation(), z.at, less)
		u, _ := impl.PutAt(abc(), z.around.notation(), z.at, more)
		checkPolyOrder(t, "", abc(), z.v, s, u, false, true)
		checkPolyOrder(t, "", abc(), slanted(), s, u, true, true)
		if is := impl.StrictIn(abc(), z.v); is {
			t.Error(z.v)
		}
	}
	checkPolyOrder(t, "", abc(), blind(), less, more, true, true)
	// Where a coefficient is not 0, less stays less even so.
	for _, around := range []tree{onOne(x), onTwo(x, c), onOne(onTwo(x, c))} {
		spots := around.spots()
		isX := func(s spot) bool { return s.sub.isSame(x) }
		at := spots[slices.IndexFunc(spots, isX)].at
		s, _ := impl.PutAt(abc(), around.notation(), at, less)
		u, _ := impl.PutAt(abc(), around.notation(), at, more)
		checkPolyOrder(t, "", abc(), blind(), s, u, true, true)
	}
}
