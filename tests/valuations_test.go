package tests

import (
	"math"
	"slices"

	"loop.example/g00895/impl"
)

// A valuation is an interpretation with which trees are valued. What the tests expect of
// forms is computed from valuations and trees: each subterm counts as often as the
// coefficients on the path to it tell.
type valuation []impl.Poly

// The document's MaxForm, and a number that is far above it.
const (
	greatestForm = 1000000000000
	countless    = 1 << 50
)

// times tells how often the subterm at the end of a path counts in x. More than countless
// is taken for countless, so that nothing overflows: only 0 makes less of it.
func (v valuation) times(x tree, path []int64) int64 {
	product := int64(1)
	for _, k := range path {
		product = min(product*v[x.head].Coef[k], countless)
		x = x.args[k]
	}
	return product
}

// line returns the linear function of x, even if x has no form.
func (v valuation) line(x tree) impl.Poly {
	f := impl.Poly{Coef: make([]int64, x.behind())}
	for _, s := range x.spots() {
		n := v.times(x, s.path)
		if s.sub.head < 0 {
			f.Coef[-1-s.sub.head] += n
		} else {
			f.Const += n * v[s.sub.head].Const
		}
	}
	return f
}

// A formed is a tree with its form, if it has one.
type formed struct {
	tree
	form impl.Poly
	has  bool
}

func (v valuation) formed(x tree) formed {
	for _, s := range x.spots() {
		if f := v.line(s.sub); slices.Max(append(f.Coef, f.Const)) > greatestForm {
			return formed{tree: x}
		}
	}
	return formed{x, v.line(x), true}
}

func (v valuation) allFormed(trees []tree) []formed {
	var found []formed
	for _, x := range trees {
		found = append(found, v.formed(x))
	}
	return found
}

// coefficient tells how often variable i counts in a form.
func coefficient(f impl.Poly, i int64) int64 {
	if i < int64(len(f.Coef)) {
		return f.Coef[i]
	}
	return 0
}

func (x formed) isAtMost(y formed) bool {
	isMore := func(i int64) bool { return coefficient(x.form, i) > coefficient(y.form, i) }
	return x.has && y.has && x.form.Const <= y.form.Const && !slices.ContainsFunc(everyPlace(24), isMore)
}

func (x formed) isLess(y formed) bool { return x.isAtMost(y) && x.form.Const != y.form.Const }

func (v valuation) less(x, y tree) bool { return v.formed(x).isLess(v.formed(y)) }

func (v valuation) atMost(x, y tree) bool { return v.formed(x).isAtMost(v.formed(y)) }

// value returns the value of x, which must have a form, from the values of its arguments.
func (v valuation) value(x tree, values []int64) int64 {
	if i := -1 - x.head; x.head < 0 {
		return coefficient(impl.Poly{Coef: values}, i)
	}
	sum := v[x.head].Const
	for k, arg := range x.args {
		sum += v[x.head].Coef[k] * v.value(arg, values)
	}
	return sum
}

func (v valuation) isStrict() bool {
	isFlat := func(p impl.Poly) bool { return slices.Contains(p.Coef, 0) }
	return !slices.ContainsFunc(v, isFlat)
}

// orients and allows report what PolyOrients and PolyAllows tell of a book.
func (v valuation) orients(b book) bool {
	return v.isStrict() && b.all(func(x ruling) bool { return v.less(x.r, x.l) })
}

func (v valuation) allows(b book) bool {
	return b.all(func(x ruling) bool { return v.atMost(x.r, x.l) })
}

// isMeant reports whether v is an interpretation of a signature.
func (v valuation) isMeant(sig impl.Sig) bool {
	if !impl.SigOk(sig) || len(v) != len(sig.Arity) {
		return false
	}
	for f, p := range v {
		all := append([]int64{p.Const}, p.Coef...)
		if int64(len(p.Coef)) != sig.Arity[f] || slices.Min(all) < 0 || slices.Max(all) > 9 {
			return false
		}
	}
	return true
}

func polyOf(constant int64, coefs ...int64) impl.Poly { return impl.Poly{Const: constant, Coef: coefs} }

// These are interpretations of the example's signature: that of the document's first
// example, that of the sizes of terms, and one for which the second argument of f0 is
// nothing.
func slanted() valuation { return valuation{polyOf(1, 2, 1), polyOf(1, 1), polyOf(0)} }
func sized() valuation   { return valuation{polyOf(1, 1, 1), polyOf(1, 1), polyOf(1)} }
func blind() valuation   { return valuation{polyOf(0, 1, 0), polyOf(1, 1), polyOf(0)} }

// growth has symbols for all numbers up to MaxForm and above it: f0 is 8 times its argument,
// f1 is 5 times, f2 adds 1, f3 is 1, f4 is the sum of two arguments, f5 is the first and
// f6 the second one of two, and f7 is 0.
func growth() (impl.Sig, valuation) {
	return impl.Sig{Arity: []int64{1, 1, 1, 0, 2, 2, 2, 1}}, valuation{
		polyOf(0, 8), polyOf(0, 5), polyOf(1, 1), polyOf(1), polyOf(0, 1, 1), polyOf(0, 1, 0), polyOf(0, 0, 1), polyOf(0, 0),
	}
}

// grown is a symbol of growth around trees.
func grown(head int64, args ...tree) tree { return tree{head: head, args: args} }

// powers is 8 to the one power times 5 to the other one times x.
func powers(eights, fives int, x tree) tree {
	for range fives {
		x = grown(1, x)
	}
	for range eights {
		x = grown(0, x)
	}
	return x
}

// raised is x and so much more.
func raised(by int, x tree) tree {
	for range by {
		x = grown(2, x)
	}
	return x
}

// brimful is MaxForm times x, and over the least number above MaxForm.
func brimful(x tree) tree { return powers(4, 12, x) }
func over() tree          { return raised(1, brimful(grown(3))) }

// valuationsOf lists every interpretation with these constants and coefficients.
func valuationsOf(sig impl.Sig, constants, coefs []int64) []valuation {
	found := []valuation{nil}
	for _, arity := range sig.Arity {
		var longer []valuation
		for _, v := range found {
			for _, p := range polysWith(arity, constants, coefs) {
				longer = append(longer, append(slices.Clone(v), p))
			}
		}
		found = longer
	}
	return found
}

// polysWith lists every Poly with so many coefficients.
func polysWith(arity int64, constants, coefs []int64) []impl.Poly {
	var found []impl.Poly
	for _, row := range slicesOf(coefs, int(arity)) {
		for _, constant := range constants {
			if int64(len(row)) == arity {
				found = append(found, polyOf(constant, row...))
			}
		}
	}
	return found
}

// lowValuations are interpretations of the example's signature with small numbers.
func lowValuations() []valuation {
	return valuationsOf(abc(), []int64{0, 1}, []int64{0, 1, 2})
}

// valuation returns an interpretation with no coefficient below least, most of them 1, so
// that long terms have forms too.
func (m maker) valuation(sig impl.Sig, least int64) valuation {
	var v valuation
	for _, arity := range sig.Arity {
		p := polyOf(m.Int64N(3))
		if m.IntN(6) == 0 {
			p.Const = m.Int64N(10)
		}
		for range arity {
			n := max(1, least)
			switch m.IntN(8) {
			case 0:
				n = least
			case 1:
				n = 2
			case 2:
				n = least + m.Int64N(10-least)
			}
			p.Coef = append(p.Coef, n)
		}
		v = append(v, p)
	}
	return v
}

// leasts are least coefficients: with some of them long terms have forms, with the last one
// most have none.
func leasts() []int64 { return []int64{0, 1, 2, 9} }

// A valued is a signature with trees and an interpretation.
type valued struct {
	sig   impl.Sig
	trees []tree
	v     valuation
}

// valuedArenas have all trees of few numbers over the example's signature with all small
// interpretations, and those of fewer numbers over other ones with some.
func valuedArenas(m maker, vars []int64, size int64) []valued {
	var found []valued
	trees := smallTrees(vars, size)
	for _, v := range append(lowValuations(), slanted(), sized(), blind()) {
		found = append(found, valued{abc(), trees, v})
	}
	for _, sig := range orderedSigs() {
		var others []tree
		for long := int64(1); long <= size && len(others) < 40; long++ {
			others = append(others, treesOf(sig, vars, long)...)
		}
		for i := range 12 {
			found = append(found, valued{sig, others, m.valuation(sig, int64(i%2))})
		}
	}
	return found
}

// A polyCase is a list of Polys for a signature. Either may not be valid.
type polyCase struct {
	name string
	sig  impl.Sig
	ps   []impl.Poly
}

func badPolys() []polyCase {
	one := impl.Sig{Arity: []int64{0}}
	found := []polyCase{
		{"nil", abc(), nil},
		{"empty", abc(), []impl.Poly{}},
		{"zero Polys", abc(), make([]impl.Poly, 3)},
		{"a Poly too few", abc(), slanted()[:2]},
		{"the first Poly is missing", abc(), slanted()[1:]},
		{"a Poly too many", abc(), append(slanted(), polyOf(0))},
		{"a zero Poly too many", abc(), append(slanted(), impl.Poly{})},
		{"many Polys", abc(), make([]impl.Poly, 5000)},
		{"another order", abc(), []impl.Poly{polyOf(1, 1), polyOf(1, 2, 1), polyOf(0)}},
		{"a coefficient too few", abc(), []impl.Poly{polyOf(1, 2), polyOf(1, 1), polyOf(0)}},
		{"a coefficient too many", abc(), []impl.Poly{polyOf(1, 2, 1, 1), polyOf(1, 1), polyOf(0)}},
		{"a coefficient 0 too many", abc(), []impl.Poly{polyOf(1, 2, 1, 0), polyOf(1, 1), polyOf(0)}},
		{"no coefficient for one argument", abc(), []impl.Poly{polyOf(1, 2, 1), polyOf(1), polyOf(0)}},
		{"two coefficients for one argument", abc(), []impl.Poly{polyOf(1, 2, 1), polyOf(1, 1, 1), polyOf(0)}},
		{"a constant with a coefficient", abc(), []impl.Poly{polyOf(1, 2, 1), polyOf(1, 1), polyOf(0, 1)}},
		{"a constant with a coefficient 0", abc(), []impl.Poly{polyOf(1, 2, 1), polyOf(1, 1), polyOf(0, 0)}},
		{"many coefficients", abc(), []impl.Poly{polyOf(1, make([]int64, 5000)...), polyOf(1, 1), polyOf(0)}},
		{"a coefficient in another Poly", abc(), []impl.Poly{polyOf(1, 2), polyOf(1, 1, 1), polyOf(0)}},
		{"the Polys of eight symbols", abc(), impl.SizePolys(wide())},
		{"the Polys of three symbols", wide(), sized()},
		{"a Poly for no symbols", impl.Sig{}, []impl.Poly{polyOf(0)}},
		{"no Polys for no symbols", impl.Sig{}, nil},
		{"two Polys for one symbol", one, []impl.Poly{polyOf(0), polyOf(0)}},
	}
	for _, n := range []int64{-1, -9, 10, 11, 256, 1 << 32, 1<<32 + 1, math.MaxInt64, math.MinInt64} {
		found = append(found, []polyCase{
			{"the constant of f0", abc(), []impl.Poly{polyOf(n, 2, 1), polyOf(1, 1), polyOf(0)}},
			{"the first coefficient of f0", abc(), []impl.Poly{polyOf(1, n, 1), polyOf(1, 1), polyOf(0)}},
			{"the second coefficient of f0", abc(), []impl.Poly{polyOf(1, 2, n), polyOf(1, 1), polyOf(0)}},
			{"the constant of f1", abc(), []impl.Poly{polyOf(1, 2, 1), polyOf(n, 1), polyOf(0)}},
			{"the coefficient of f1", abc(), []impl.Poly{polyOf(1, 2, 1), polyOf(1, n), polyOf(0)}},
			{"the constant of f2", abc(), []impl.Poly{polyOf(1, 2, 1), polyOf(1, 1), polyOf(n)}},
			{"the third coefficient", impl.Sig{Arity: []int64{3}}, []impl.Poly{polyOf(1, 1, 1, n)}},
			{"a constant alone", one, []impl.Poly{polyOf(n)}},
		}...)
	}
	for _, sig := range badSigs() {
		var fitting []impl.Poly
		for _, arity := range sig.Arity {
			fitting = append(fitting, polyOf(1, slices.Repeat([]int64{1}, int(max(0, min(arity, 8))))...))
		}
		found = append(found, polyCase{"a bad signature", sig, fitting})
		found = append(found, polyCase{"a bad signature and no Polys", sig, nil})
	}
	return found
}

func equalPolys(a, b impl.Poly) bool { return a.Const == b.Const && slices.Equal(a.Coef, b.Coef) }

func clonePolys(ps []impl.Poly) []impl.Poly {
	var found []impl.Poly
	for _, p := range ps {
		found = append(found, polyOf(p.Const, slices.Clone(p.Coef)...))
	}
	return found
}
