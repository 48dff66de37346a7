package tests

import (
	"slices"
	"testing"

	"loop.example/g00895/impl"
)

// A pathOrder is one of the two orders with the function that tells whether it
// orients all rules.
type pathOrder struct {
	name    string
	bags    bool
	less    func(sig impl.Sig, rank, s, t []int64) bool
	orients func(sys impl.System, rank []int64) bool
}

func pathOrders() []pathOrder {
	return []pathOrder{
		{"LpoLess", false, impl.LpoLess, impl.OrientsAll},
		{"MpoLess", true, impl.MpoLess, impl.OrientsBags},
	}
}

// table tells for each two of the trees whether the second one is greater.
func (o pathOrder) table(a arena) [][]bool {
	return tableOf(a.trees, a.trees, func(x, y tree) bool { return o.less(a.sig, a.rank, x.notation(), y.notation()) })
}

// checkLaws checks that no tree is less than itself, that what is less than a lesser
// one is less, and that every subterm is less. It returns how many triples there were.
func (o pathOrder) checkLaws(t *testing.T, a arena) int {
	t.Helper()
	less, triples := o.table(a), 0
	for x := range a.trees {
		if less[x][x] {
			t.Fatal(o.name, a.sig, a.rank, a.trees[x].notation())
		}
		for y := range a.trees {
			for z := range a.trees {
				if less[x][y] && less[y][z] {
					triples++
					if !less[x][z] {
						t.Fatal(o.name, a.sig, a.rank, a.trees[x].notation(), a.trees[y].notation(), a.trees[z].notation())
					}
				}
			}
		}
	}
	return triples
}

func TestPathOrdersAreOrders(t *testing.T) {
	for _, o := range pathOrders() {
		triples := 0
		for _, a := range arenas([]int64{-1, -2}, 4) {
			triples += o.checkLaws(t, a)
		}
		if triples < 100000 {
			t.Error("too few of the triples test much", o.name, triples)
		}
	}
}

// Of long terms too, and of many of them that are alike.
func TestPathOrdersOfLongTermsAreOrders(t *testing.T) {
	m := makerOf(61)
	for _, o := range pathOrders() {
		triples := 0
		for range 20 {
			a := arena{sig: m.book().sig}
			a.rank, a.trees = m.rank(a.sig), []tree{m.tree(a.sig, 40)}
			for len(a.trees) < 25 {
				x := a.trees[m.IntN(len(a.trees))]
				y := x.put(m.spot(x).path, m.gathered(a.sig, x))
				if y.size() <= impl.MaxTerm {
					a.trees = append(a.trees, y)
				}
			}
			triples += o.checkLaws(t, a)
		}
		if triples < 5000 {
			t.Error("too few of the triples test much", o.name, triples)
		}
	}
}

func TestSubtermsAreLess(t *testing.T) {
	m := makerOf(62)
	check := func(a arena) {
		for _, x := range a.trees {
			for _, s := range x.spots() {
				for _, o := range pathOrders() {
					if got := o.less(a.sig, a.rank, s.sub.notation(), x.notation()); got != (s.at > 0) {
						t.Fatal(o.name, a.sig, a.rank, s.at, x.notation())
					}
				}
			}
		}
	}
	for _, a := range arenas([]int64{-1, -2}, 4) {
		check(a)
	}
	for _, rank := range ranksOf(3) {
		check(arena{abc(), deepTrees(), rank})
	}
	for range 100 {
		b := m.book()
		check(arena{b.sig, []tree{m.tree(b.sig, 2+m.Int64N(59))}, m.rank(b.sig)})
	}
}

// Of two different terms without variables, exactly one is less in the lexicographic
// order.
func TestLpoIsTotalWithoutVariables(t *testing.T) {
	pairs := 0
	check := func(sig impl.Sig, rank []int64, x, y tree) {
		less, more := impl.LpoLess(sig, rank, x.notation(), y.notation()), impl.LpoLess(sig, rank, y.notation(), x.notation())
		if isOne := less != more; isOne == x.isSame(y) {
			t.Fatal(sig, rank, x.notation(), y.notation(), less, more)
		}
		if got := impl.LpoCompare(sig, rank, x.notation(), y.notation()); got == 2 || got == 0 != x.isSame(y) {
			t.Fatal(sig, rank, x.notation(), y.notation(), got)
		}
		pairs++
	}
	for _, a := range arenas(nil, 5) {
		for _, x := range a.trees {
			for _, y := range a.trees {
				check(a.sig, a.rank, x, y)
			}
		}
	}
	m, c := makerOf(63), tree{head: 2}
	f := filling{0: c, 10: onOne(c), 20: c}
	for range 400 {
		x := m.tree(abc(), 2+m.Int64N(50)).filled(f)
		y, z := m.gathered(abc(), x), m.gathered(abc(), x)
		if max(x.size(), y.size(), z.size()) <= impl.MaxTerm {
			check(abc(), m.rank(abc()), x, y)
			check(abc(), m.rank(abc()), y, z)
		}
	}
	if pairs < 20000 {
		t.Error("too few of the pairs test much", pairs)
	}
}

// checkFilled checks that less stays less under a filling. It leaves out what would be
// too long for a term, and reports whether it did not.
func (o pathOrder) checkFilled(t *testing.T, a arena, x, y tree, f filling) bool {
	t.Helper()
	less, is := impl.Filled(a.sig, f.subst(0), x.notation())
	more, are := impl.Filled(a.sig, f.subst(0), y.notation())
	if is && are && !o.less(a.sig, a.rank, less, more) {
		t.Fatal(o.name, a.sig, a.rank, x.notation(), y.notation(), f.subst(0))
	}
	return is && are
}

// checkInContexts checks that less stays less at every position of a term.
func (o pathOrder) checkInContexts(t *testing.T, a arena, x, y, around tree) int {
	t.Helper()
	checked := 0
	for _, s := range around.spots() {
		less, is := impl.PutAt(a.sig, around.notation(), s.at, x.notation())
		more, are := impl.PutAt(a.sig, around.notation(), s.at, y.notation())
		if !is || !are {
			continue
		}
		checked++
		if !o.less(a.sig, a.rank, less, more) {
			t.Fatal(o.name, a.sig, a.rank, x.notation(), y.notation(), around.notation(), s.at)
		}
	}
	return checked
}

// P13 for all pairs of small terms: under many substitutions, also such as make
// different variables the same, and inside small terms.
func TestPathOrdersAreClosed(t *testing.T) {
	m := makerOf(64)
	for _, o := range pathOrders() {
		filled, inside := 0, 0
		for _, a := range arenas([]int64{-1, -2}, 4) {
			less := o.table(a)
			for i, x := range a.trees {
				for j, y := range a.trees {
					if !less[i][j] {
						continue
					}
					for range 3 {
						f := filling{0: a.trees[m.IntN(len(a.trees))], 1: a.trees[m.IntN(len(a.trees))]}
						if o.checkFilled(t, a, x, y, f) {
							filled++
						}
					}
					o.checkFilled(t, a, x, y, filling{0: variable(1)})
					inside += o.checkInContexts(t, a, x, y, a.trees[m.IntN(len(a.trees))])
				}
			}
		}
		if filled < 80000 || inside < 80000 {
			t.Error("too few of the pairs test much", o.name, filled, inside)
		}
	}
}

// P13 with every filling and inside every term of few numbers, for the example's
// signature and smaller pairs.
func TestPathOrdersAreClosedEverywhere(t *testing.T) {
	images := smallTrees([]int64{-1, -2}, 3)
	fillings := fillingsOf([]int64{0, 1}, images[:9])
	for _, o := range pathOrders() {
		for _, rank := range ranksOf(3) {
			a := arena{abc(), images, rank}
			less := o.table(a)
			for i, x := range images {
				for j, y := range images {
					if !less[i][j] {
						continue
					}
					for _, f := range fillings {
						o.checkFilled(t, a, x, y, f)
					}
					for _, around := range images {
						o.checkInContexts(t, a, x, y, around)
					}
				}
			}
		}
	}
}

// P13 for long terms, up to MaxTerm numbers.
func TestPathOrdersOfLongTermsAreClosed(t *testing.T) {
	m := makerOf(65)
	for _, o := range pathOrders() {
		filled, inside := 0, 0
		for range 1500 {
			sig := m.book().sig
			a := arena{sig: sig, rank: m.rank(sig)}
			x := m.tree(sig, 2+m.Int64N(40))
			y := m.gathered(sig, x)
			if m.IntN(2) == 0 {
				x = m.gathered(sig, x)
			}
			if max(x.size(), y.size()) > impl.MaxTerm {
				continue
			}
			if !o.less(sig, a.rank, x.notation(), y.notation()) {
				x, y = y, x
			}
			if !o.less(sig, a.rank, x.notation(), y.notation()) {
				continue
			}
			f := filling{}
			for _, i := range y.varSet() {
				f[i] = m.tree(sig, 2+m.Int64N(6))
			}
			if o.checkFilled(t, a, x, y, f) {
				filled++
			}
			inside += o.checkInContexts(t, a, x, y, m.tree(sig, 2+m.Int64N(20)))
		}
		if filled < 100 || inside < 1000 {
			t.Error("too few of the pairs test much", o.name, filled, inside)
		}
	}
}

// Some pairs that the closure under substitutions and contexts needs with care: the
// arguments that bags have in common after it and not before.
func TestPathOrdersAreClosedAtTheEdges(t *testing.T) {
	a := arena{sig: abc(), rank: falling()}
	x, y, c := variable(0), variable(1), tree{head: 2}
	cases := []struct {
		less, more tree
		f          filling
	}{
		{onTwo(x, y), onTwo(onOne(x), y), filling{1: onOne(variable(5)), 0: variable(5)}},
		{onTwo(y, x), onTwo(onOne(y), onOne(x)), filling{0: onOne(c), 1: c}},
		{onTwo(x, y), onTwo(onOne(x), onOne(y)), filling{0: y}},
		{onTwo(c, x), onTwo(onOne(x), x), filling{0: c}},
		{x, onOne(x), filling{0: tower(58, variable(23))}},
	}
	for i, z := range cases {
		for _, o := range pathOrders() {
			if !o.less(a.sig, a.rank, z.less.notation(), z.more.notation()) || !o.checkFilled(t, a, z.less, z.more, z.f) {
				t.Error(o.name, i)
			}
			for _, around := range []tree{onTwo(z.less, x), onTwo(z.more, x), onTwo(x, z.less), onTwo(z.less, z.more), onTwo(z.more, z.more), onTwo(z.less, z.less), tower(3, x)} {
				if o.checkInContexts(t, a, z.less, z.more, around) != int(around.size()) && i < 4 {
					t.Error(o.name, i)
				}
			}
		}
	}
	last := tower(55, x)
	for _, o := range pathOrders() {
		if got := o.checkInContexts(t, a, last, onOne(last), tower(3, x)); got != 4 {
			t.Error(o.name, got)
		}
		if slices.ContainsFunc([]tree{last, onOne(last)}, func(x tree) bool { return o.less(a.sig, a.rank, x.notation(), x.notation()) }) {
			t.Error(o.name)
		}
	}
}
