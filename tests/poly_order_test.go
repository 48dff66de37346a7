package tests

import (
	"testing"

	"loop.example/g00895/impl"
)

// checkPolyOrder checks what the functions on two terms say of them in one direction.
func checkPolyOrder(t *testing.T, name string, sig impl.Sig, ps []impl.Poly, s, u []int64, less, atMost bool) {
	t.Helper()
	if got := impl.PolyLess(sig, ps, s, u); got != less {
		t.Fatal("PolyLess", name, sig, ps, s, u, got)
	}
	if got := impl.PolyAtMost(sig, ps, s, u); got != atMost {
		t.Fatal("PolyAtMost", name, sig, ps, s, u, got)
	}
}

// A valuing of two terms tells whether the first one is less than the second one and
// whether it is at most that, and the same of the second one.
type valuing struct {
	name                       string
	v                          valuation
	s, u                       []int64
	less, atMost, more, atBest bool
}

func checkValuings(t *testing.T, sig impl.Sig, cases []valuing) {
	t.Helper()
	for _, c := range cases {
		t.Run(c.name, func(t *testing.T) {
			checkPolyOrder(t, c.name, sig, c.v, c.s, c.u, c.less, c.atMost)
			checkPolyOrder(t, c.name, sig, c.v, c.u, c.s, c.more, c.atBest)
		})
	}
}

func TestPolyOrder(t *testing.T) {
	light := valuation{polyOf(0, 2, 1), polyOf(0, 1), polyOf(0)}
	checkValuings(t, abc(), []valuing{
		{"the document's example", slanted(), []int64{1, 0, -1, -2}, []int64{0, 1, -1, -2}, true, true, false, false},
		{"a variable and itself", slanted(), []int64{-1}, []int64{-1}, false, true, false, true},
		{"two variables", slanted(), []int64{-1}, []int64{-2}, false, false, false, false},
		{"the last two variables", slanted(), []int64{-23}, []int64{-24}, false, false, false, false},
		{"a constant and itself", sized(), []int64{2}, []int64{2}, false, true, false, true},
		{"a constant that is 0 and a variable", slanted(), []int64{2}, []int64{-1}, false, true, false, false},
		{"a constant that is 1 and a variable", sized(), []int64{2}, []int64{-1}, false, false, false, false},
		{"a constant and a variable with 1 more", sized(), []int64{2}, []int64{1, 1, -1}, true, true, false, false},
		{"a constant and a variable with as much", sized(), []int64{2}, []int64{1, -1}, false, true, false, false},
		{"constants only", slanted(), []int64{1, 2}, []int64{1, 1, 2}, true, true, false, false},
		{"equal forms of other terms", sized(), []int64{0, -1, 1, -2}, []int64{0, 1, -2, -1}, false, true, false, true},
		{"equal constants, a greater coefficient", light, []int64{-1}, []int64{0, -1, 2}, false, true, false, false},
		{"equal constants, a greater second coefficient", light, []int64{0, 2, -2}, []int64{0, -2, -1}, false, true, false, false},
		{"equal constants, each has a greater coefficient", light, []int64{0, -1, -2}, []int64{0, -2, -1}, false, false, false, false},
		{"a greater constant, equal coefficients", slanted(), []int64{0, -1, -2}, []int64{0, -1, 1, -2}, true, true, false, false},
		{"a greater constant, a greater coefficient", slanted(), []int64{-2}, []int64{0, -2, -1}, true, true, false, false},
		{"a greater constant, a coefficient is less", slanted(), []int64{0, -1, 2}, []int64{1, 1, -1}, false, false, false, false},
		{"a greater constant, the last coefficient is less", slanted(), []int64{0, 2, 0, -1, -24}, []int64{1, 1, 1, 0, -1, 2}, false, false, false, false},
		{"one more coefficient", sized(), []int64{-1}, []int64{0, -1, -2}, true, true, false, false},
		{"one more coefficient, equal constants", light, []int64{-1}, []int64{0, -1, -2}, false, true, false, false},
		{"many more coefficients", sized(), []int64{-1}, []int64{0, -1, -24}, true, true, false, false},
		{"many more coefficients, the first one is less", sized(), []int64{0, -1, -1}, []int64{1, 1, 0, -1, -24}, false, false, false, false},
		{"another variable far above", sized(), []int64{-1}, []int64{1, -24}, false, false, false, false},
		{"a coefficient 0 more", blind(), []int64{-1}, []int64{0, -1, -2}, false, true, false, true},
		{"many coefficients 0 more", blind(), []int64{-1}, []int64{0, -1, -24}, false, true, false, true},
		{"many coefficients 0 more, a greater constant", blind(), []int64{-1}, []int64{1, 0, -1, -24}, true, true, false, false},
		{"many coefficients 0 fewer, a greater constant", blind(), []int64{0, -1, -24}, []int64{1, -1}, true, true, false, false},
		{"coefficients 0 and none", blind(), []int64{0, 2, -24}, []int64{1, 2}, true, true, false, false},
		{"coefficients 0 and none, equal constants", blind(), []int64{0, 2, -24}, []int64{2}, false, true, false, true},
		{"other variables that count for nothing", blind(), []int64{0, -1, -2}, []int64{0, -1, -3}, false, true, false, true},
		{"a term inside one that counts for nothing", blind(), []int64{1, 1, 2}, []int64{0, 2, 1, 1, 1, 2}, false, false, true, true},
		{"59 and 60 numbers", sized(), nested(59), nested(60), true, true, false, false},
		{"60 numbers and themselves", sized(), nested(60), nested(60), false, true, false, true},
		{"60 numbers around other ends", slanted(), nested(60), append(nested(60)[:59], -1), false, true, false, false},
		{"60 numbers without a form", valuation{polyOf(0, 1, 1), polyOf(0, 4), polyOf(1)}, []int64{2}, nested(60), false, false, false, false},
		{"all variables", sized(), []int64{-24}, allVars(), true, true, false, false},
	})
}

// What has no form is neither less nor at most, nor is anything less than it.
func TestPolyOrderAtTheLimit(t *testing.T) {
	x, y, c := variable(0), variable(1), grown(3)
	sig, v := growth()
	none := grown(5, x, over())
	checkValuings(t, sig, []valuing{
		{"the greatest constant", v, c.notation(), brimful(c).notation(), true, true, false, false},
		{"a little less than the greatest constant", v, grown(4, powers(3, 12, c), powers(3, 12, raised(5, c))).notation(), brimful(c).notation(), true, true, false, false},
		{"the greatest constant and itself", v, brimful(c).notation(), brimful(c).notation(), false, true, false, true},
		{"the greatest coefficient", v, x.notation(), raised(1, brimful(x)).notation(), true, true, false, false},
		{"the greatest coefficient and itself", v, brimful(x).notation(), brimful(x).notation(), false, true, false, true},
		{"the greatest coefficients of two variables", v, brimful(x).notation(), brimful(y).notation(), false, false, false, false},
		{"no form", v, c.notation(), over().notation(), false, false, false, false},
		{"no form and itself", v, over().notation(), over().notation(), false, false, false, false},
		{"no form for a coefficient", v, x.notation(), grown(4, brimful(x), raised(1, x)).notation(), false, false, false, false},
		{"no form inside", v, x.notation(), raised(1, none).notation(), false, false, false, false},
		{"no form inside, of both", v, none.notation(), raised(1, none).notation(), false, false, false, false},
		{"a form and a number above MaxForm in 64 bits", v, c.notation(), powers(20, 0, raised(2, c)).notation(), false, false, false, false},
	})
}

// checkFormed checks what the functions on two terms say of two trees in either direction.
func checkFormed(t *testing.T, sig impl.Sig, v valuation, x, y formed) {
	t.Helper()
	checkPolyOrder(t, "", sig, v, x.notation(), y.notation(), x.isLess(y), x.isAtMost(y))
	checkPolyOrder(t, "", sig, v, y.notation(), x.notation(), y.isLess(x), y.isAtMost(x))
}

// A tallied tells how many pairs were less, how many only at most, and how many neither.
type tallied [3]int

func (n *tallied) count(x, y formed) {
	switch {
	case x.isLess(y):
		n[0]++
	case x.isAtMost(y):
		n[1]++
	default:
		n[2]++
	}
}

func (n tallied) check(t *testing.T, least int) {
	t.Helper()
	if min(n[0], n[1], n[2]) < least {
		t.Error("too few of the pairs test much", n)
	}
}

// All pairs of trees of few numbers.
func TestPolyOrderOfSmallTerms(t *testing.T) {
	var n tallied
	for i, a := range valuedArenas(makerOf(98), []int64{-1, -2}, 4) {
		if i%3 > 0 && i < 200 {
			continue
		}
		trees := a.v.allFormed(a.trees)
		for k, x := range trees {
			for _, y := range trees[k:] {
				checkFormed(t, a.sig, a.v, x, y)
				n.count(x, y)
				n.count(y, x)
			}
		}
	}
	n.check(t, 2000)
}

// Long trees that are much alike, so that their forms differ in few numbers.
func TestPolyOrderOfLongTerms(t *testing.T) {
	m := makerOf(99)
	var n tallied
	check := func(sig impl.Sig, v valuation, x, y tree) {
		if max(x.size(), y.size()) <= impl.MaxTerm {
			p, q := v.formed(x), v.formed(y)
			checkFormed(t, sig, v, p, q)
			n.count(p, q)
			n.count(q, p)
		}
	}
	for i := range 300 {
		z, _ := m.blur(i%2 == 0)
		check(z.sig, m.valuation(z.sig, int64(i%2)), z.x, z.y)
	}
	for i := range 500 {
		sig := m.book().sig
		v, x := m.valuation(sig, leasts()[i%4]), m.tree(sig, 2+m.Int64N(59))
		at := m.spot(x)
		check(sig, v, x, x.put(at.path, m.tree(sig, 1+int64(i%9))))
		check(sig, v, x, x.put(at.path, at.sub.mirrored()))
		check(sig, v, x, m.recast(sig, x))
		check(sig, v, x, m.gathered(sig, x))
		check(sig, v, x, at.sub)
	}
	n.check(t, 200)
}

// Trees of MaxTerm numbers or nearly, nested as deeply as possible and much alike.
func TestPolyOrderOfDeepTerms(t *testing.T) {
	m := makerOf(100)
	var n tallied
	for _, v := range []valuation{slanted(), sized(), blind(), m.valuation(abc(), 0), m.valuation(abc(), 1), m.valuation(abc(), 1), {polyOf(1, 1, 2), polyOf(0, 1), polyOf(3)}} {
		trees := v.allFormed(append(deepTrees(), variable(0), variable(1), tree{head: 2}))
		for i, x := range trees {
			for _, y := range trees[i:] {
				checkFormed(t, abc(), v, x, y)
				n.count(x, y)
				n.count(y, x)
			}
		}
	}
	n.check(t, 100)
}

// Of two terms without variables that have forms, one is at most the other.
func TestPolyOrderIsTotalWithoutVariables(t *testing.T) {
	m, pairs := makerOf(101), 0
	check := func(sig impl.Sig, v valuation, x, y tree) {
		_, is := impl.FormOf(sig, v, x.notation())
		_, are := impl.FormOf(sig, v, y.notation())
		if !is || !are {
			return
		}
		pairs++
		there, back := impl.PolyAtMost(sig, v, x.notation(), y.notation()), impl.PolyAtMost(sig, v, y.notation(), x.notation())
		checkPolyOrder(t, "", sig, v, x.notation(), y.notation(), !back, there)
		checkPolyOrder(t, "", sig, v, y.notation(), x.notation(), !there, back)
	}
	for _, a := range valuedArenas(m, nil, 5) {
		for i, x := range a.trees {
			for _, y := range a.trees[i:] {
				check(a.sig, a.v, x, y)
			}
		}
	}
	c := tree{head: 2}
	f := filling{0: c, 10: onOne(c), 20: c}
	for i := range 400 {
		v, x := m.valuation(abc(), int64(i%2)), m.tree(abc(), 2+m.Int64N(50)).filled(f)
		if y := m.gathered(abc(), x); max(x.size(), y.size()) <= impl.MaxTerm {
			check(abc(), v, x, y)
			check(abc(), v, y, y.mirrored())
		}
	}
	if pairs < 10000 {
		t.Error("too few of the pairs test much", pairs)
	}
}
