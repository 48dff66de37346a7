package tests

import (
	"slices"
	"testing"

	"loop.example/g00895/impl"
)

// A termOrder is an order of terms by a precedence, with the function that tells whether
// it orients all rules, and one that tells which terms it compares, if not all.
type termOrder struct {
	name    string
	less    func(sig impl.Sig, rank, s, t []int64) bool
	orients func(sys impl.System, rank []int64) bool
	takes   func(sig impl.Sig, nums []int64) bool
}

func pathOrders() []termOrder {
	return []termOrder{
		{name: "LpoLess", less: impl.LpoLess, orients: impl.OrientsAll},
		{name: "MpoLess", less: impl.MpoLess, orients: impl.OrientsBags},
	}
}

// takesBoth reports whether the order compares the two terms.
func (o termOrder) takesBoth(sig impl.Sig, s, t []int64) bool {
	return o.takes == nil || o.takes(sig, s) && o.takes(sig, t)
}

// table tells for each two of the trees whether the second one is greater.
func (o termOrder) table(a arena) [][]bool {
	return tableOf(a.trees, a.trees, func(x, y tree) bool { return o.less(a.sig, a.rank, x.notation(), y.notation()) })
}

// checkLaws checks that no tree is less than itself, and that what is less than a lesser
// one is less. It returns how many triples there were.
func (o termOrder) checkLaws(t *testing.T, a arena) int {
	t.Helper()
	less, triples := o.table(a), 0
	for x := range a.trees {
		if less[x][x] {
			t.Fatal(o.name, a.sig, a.rank, a.trees[x].notation())
		}
		for y := range a.trees {
			for z := range a.trees {
				if less[x][y] && less[y][z] {
					triples++
					if !less[x][z] {
						t.Fatal(o.name, a.sig, a.rank, a.trees[x].notation(), a.trees[y].notation(), a.trees[z].notation())
					}
				}
			}
		}
	}
	return triples
}

func TestPathOrdersAreOrders(t *testing.T) {
	for _, o := range pathOrders() {
		triples := 0
		for _, a := range arenas([]int64{-1, -2}, 4) {
			triples += o.checkLaws(t, a)
		}
		if triples < 100000 {
			t.Error("too few of the triples test much", o.name, triples)
		}
	}
}

// longArena returns long trees of which many are alike.
func (m maker) longArena(sig impl.Sig, rank []int64) arena {
	a := arena{sig: sig, trees: []tree{m.tree(sig, 40)}, rank: rank}
	for len(a.trees) < 25 {
		x := a.trees[m.IntN(len(a.trees))]
		y := x.put(m.spot(x).path, m.gathered(a.sig, x))
		if y.size() <= impl.MaxTerm {
			a.trees = append(a.trees, y)
		}
	}
	return a
}

func TestPathOrdersOfLongTermsAreOrders(t *testing.T) {
	m := makerOf(61)
	for _, o := range pathOrders() {
		triples := 0
		for range 20 {
			sig := m.book().sig
			triples += o.checkLaws(t, m.longArena(sig, m.rank(sig)))
		}
		if triples < 5000 {
			t.Error("too few of the triples test much", o.name, triples)
		}
	}
}

// checkSubtermsAreLess checks that each of the trees is greater than its subterms.
func (o termOrder) checkSubtermsAreLess(t *testing.T, a arena) {
	t.Helper()
	for _, x := range a.trees {
		for _, s := range x.spots() {
			if got := o.less(a.sig, a.rank, s.sub.notation(), x.notation()); got != (s.at > 0) {
				t.Fatal(o.name, a.sig, a.rank, s.at, x.notation())
			}
		}
	}
}

func TestSubtermsAreLess(t *testing.T) {
	m := makerOf(62)
	for _, o := range pathOrders() {
		for _, a := range arenas([]int64{-1, -2}, 4) {
			o.checkSubtermsAreLess(t, a)
		}
		for _, rank := range ranksOf(3) {
			o.checkSubtermsAreLess(t, arena{abc(), deepTrees(), rank})
		}
		for range 100 {
			b := m.book()
			o.checkSubtermsAreLess(t, arena{b.sig, []tree{m.tree(b.sig, 2+m.Int64N(59))}, m.rank(b.sig)})
		}
	}
}

// checkOneIsLess checks that of two trees without variables exactly one is less, or none
// if they are the same.
func (o termOrder) checkOneIsLess(t *testing.T, sig impl.Sig, rank []int64, x, y tree) {
	t.Helper()
	less, more := o.less(sig, rank, x.notation(), y.notation()), o.less(sig, rank, y.notation(), x.notation())
	if less && more || (less || more) == x.isSame(y) {
		t.Fatal(o.name, sig, rank, x.notation(), y.notation(), less, more)
	}
}

// Of two different terms without variables, exactly one is less in the lexicographic
// order.
func TestLpoIsTotalWithoutVariables(t *testing.T) {
	pairs := 0
	check := func(sig impl.Sig, rank []int64, x, y tree) {
		pathOrders()[0].checkOneIsLess(t, sig, rank, x, y)
		if got := impl.LpoCompare(sig, rank, x.notation(), y.notation()); got == 2 || got == 0 != x.isSame(y) {
			t.Fatal(sig, rank, x.notation(), y.notation(), got)
		}
		pairs++
	}
	for _, a := range arenas(nil, 5) {
		for _, x := range a.trees {
			for _, y := range a.trees {
				check(a.sig, a.rank, x, y)
			}
		}
	}
	m, c := makerOf(63), tree{head: 2}
	f := filling{0: c, 10: onOne(c), 20: c}
	for range 400 {
		x := m.tree(abc(), 2+m.Int64N(50)).filled(f)
		y, z := m.gathered(abc(), x), m.gathered(abc(), x)
		if max(x.size(), y.size(), z.size()) <= impl.MaxTerm {
			check(abc(), m.rank(abc()), x, y)
			check(abc(), m.rank(abc()), y, z)
		}
	}
	if pairs < 20000 {
		t.Error("too few of the pairs test much", pairs)
	}
}

// checkFilled checks that less stays less under a filling. It leaves out what would be
// too long for a term or is not compared, and reports whether it did not.
func (o termOrder) checkFilled(t *testing.T, a arena, x, y tree, f filling) bool {
	t.Helper()
	less, is := impl.Filled(a.sig, f.subst(0), x.notation())
	more, are := impl.Filled(a.sig, f.subst(0), y.notation())
	if !is || !are || !o.takesBoth(a.sig, less, more) {
		return false
	}
	if !o.less(a.sig, a.rank, less, more) {
		t.Fatal(o.name, a.sig, a.rank, x.notation(), y.notation(), f.subst(0))
	}
	return true
}

// checkInContexts checks that less stays less at every position of a term.
func (o termOrder) checkInContexts(t *testing.T, a arena, x, y, around tree) int {
	t.Helper()
	checked := 0
	for _, s := range around.spots() {
		less, is := impl.PutAt(a.sig, around.notation(), s.at, x.notation())
		more, are := impl.PutAt(a.sig, around.notation(), s.at, y.notation())
		if !is || !are || !o.takesBoth(a.sig, less, more) {
			continue
		}
		checked++
		if !o.less(a.sig, a.rank, less, more) {
			t.Fatal(o.name, a.sig, a.rank, x.notation(), y.notation(), around.notation(), s.at)
		}
	}
	return checked
}

// closures counts the pairs of which a test checked that less stays less.
type closures struct{ filled, inside int }

// checkClosed checks that less stays less for all pairs of the trees: under some
// fillings, also such as make different variables the same, and inside one of the trees.
func (n *closures) checkClosed(t *testing.T, m maker, o termOrder, a arena) {
	t.Helper()
	less := o.table(a)
	for i, x := range a.trees {
		for j, y := range a.trees {
			if !less[i][j] {
				continue
			}
			for range 3 {
				f := filling{0: a.trees[m.IntN(len(a.trees))], 1: a.trees[m.IntN(len(a.trees))]}
				if o.checkFilled(t, a, x, y, f) {
					n.filled++
				}
			}
			o.checkFilled(t, a, x, y, filling{0: variable(1)})
			n.inside += o.checkInContexts(t, a, x, y, a.trees[m.IntN(len(a.trees))])
		}
	}
}

// P13 for all pairs of small terms.
func TestPathOrdersAreClosed(t *testing.T) {
	m := makerOf(64)
	for _, o := range pathOrders() {
		var n closures
		for _, a := range arenas([]int64{-1, -2}, 4) {
			n.checkClosed(t, m, o, a)
		}
		if n.filled < 80000 || n.inside < 80000 {
			t.Error("too few of the pairs test much", o.name, n)
		}
	}
}

// checkClosedEverywhere checks that less stays less under every one of the fillings and
// inside every one of the trees.
func (o termOrder) checkClosedEverywhere(t *testing.T, a arena, fillings []filling) {
	t.Helper()
	less := o.table(a)
	for i, x := range a.trees {
		for j, y := range a.trees {
			if !less[i][j] {
				continue
			}
			for _, f := range fillings {
				o.checkFilled(t, a, x, y, f)
			}
			for _, around := range a.trees {
				o.checkInContexts(t, a, x, y, around)
			}
		}
	}
}

// P13 with every filling and inside every term of few numbers, for the example's
// signature and smaller pairs.
func TestPathOrdersAreClosedEverywhere(t *testing.T) {
	images := smallTrees([]int64{-1, -2}, 3)
	fillings := fillingsOf([]int64{0, 1}, images[:9])
	for _, o := range pathOrders() {
		for _, rank := range ranksOf(3) {
			o.checkClosedEverywhere(t, arena{abc(), images, rank}, fillings)
		}
	}
}

// checkLongClosed checks that less stays less for two long trees that are much alike.
func (n *closures) checkLongClosed(t *testing.T, m maker, o termOrder, a arena) {
	t.Helper()
	x := m.tree(a.sig, 2+m.Int64N(40))
	y := m.gathered(a.sig, x)
	if m.IntN(2) == 0 {
		x = m.gathered(a.sig, x)
	}
	if max(x.size(), y.size()) > impl.MaxTerm {
		return
	}
	if !o.less(a.sig, a.rank, x.notation(), y.notation()) {
		x, y = y, x
	}
	if !o.less(a.sig, a.rank, x.notation(), y.notation()) {
		return
	}
	f := filling{}
	for _, i := range y.varSet() {
		f[i] = m.tree(a.sig, 2+m.Int64N(6))
	}
	if o.checkFilled(t, a, x, y, f) {
		n.filled++
	}
	n.inside += o.checkInContexts(t, a, x, y, m.tree(a.sig, 2+m.Int64N(20)))
}

// P13 for long terms, up to MaxTerm numbers.
func TestPathOrdersOfLongTermsAreClosed(t *testing.T) {
	m := makerOf(65)
	for _, o := range pathOrders() {
		var n closures
		for range 1500 {
			sig := m.book().sig
			n.checkLongClosed(t, m, o, arena{sig: sig, rank: m.rank(sig)})
		}
		if n.filled < 100 || n.inside < 1000 {
			t.Error("too few of the pairs test much", o.name, n)
		}
	}
}

// Some pairs that the closure under substitutions and contexts needs with care: the
// arguments that bags have in common after it and not before.
func TestPathOrdersAreClosedAtTheEdges(t *testing.T) {
	a := arena{sig: abc(), rank: falling()}
	x, y, c := variable(0), variable(1), tree{head: 2}
	cases := []struct {
		less, more tree
		f          filling
	}{
		{onTwo(x, y), onTwo(onOne(x), y), filling{1: onOne(variable(5)), 0: variable(5)}},
		{onTwo(y, x), onTwo(onOne(y), onOne(x)), filling{0: onOne(c), 1: c}},
		{onTwo(x, y), onTwo(onOne(x), onOne(y)), filling{0: y}},
		{onTwo(c, x), onTwo(onOne(x), x), filling{0: c}},
		{x, onOne(x), filling{0: tower(58, variable(23))}},
	}
	for i, z := range cases {
		for _, o := range pathOrders() {
			if !o.less(a.sig, a.rank, z.less.notation(), z.more.notation()) || !o.checkFilled(t, a, z.less, z.more, z.f) {
				t.Error(o.name, i)
			}
			for _, around := range []tree{onTwo(z.less, x), onTwo(z.more, x), onTwo(x, z.less), onTwo(z.less, z.more), onTwo(z.more, z.more), onTwo(z.less, z.less), tower(3, x)} {
				if o.checkInContexts(t, a, z.less, z.more, around) != int(around.size()) && i < 4 {
					t.Error(o.name, i)
				}
			}
		}
	}
	last := tower(55, x)
	for _, o := range pathOrders() {
		if got := o.checkInContexts(t, a, last, onOne(last), tower(3, x)); got != 4 {
			t.Error(o.name, got)
		}
		if slices.ContainsFunc([]tree{last, onOne(last)}, func(x tree) bool { return o.less(a.sig, a.rank, x.notation(), x.notation()) }) {
			t.Error(o.name)
		}
	}
}
