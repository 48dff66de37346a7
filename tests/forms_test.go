package tests

import (
	"slices"
	"testing"

	"loop.example/g00895/impl"
)

// checkForm checks the form of a term, or that it has none.
func checkForm(t *testing.T, name string, sig impl.Sig, ps []impl.Poly, nums []int64, want impl.Poly, has bool) {
	t.Helper()
	got, is := impl.FormOf(sig, ps, nums)
	if is != has || !equalPolys(got, want) {
		t.Fatal("FormOf", name, sig, ps, nums, got, is, want)
	}
}

func TestFormOf(t *testing.T) {
	last := append(make([]int64, 23), 1)
	cases := []struct {
		name string
		v    valuation
		nums []int64
		want impl.Poly
	}{
		{"the document's example", slanted(), []int64{0, 1, -1, 0, -2, -1}, polyOf(4, 3, 2)},
		{"a variable", slanted(), []int64{-1}, polyOf(0, 1)},
		{"a later variable", slanted(), []int64{-3}, polyOf(0, 0, 0, 1)},
		{"the last variable", slanted(), []int64{-24}, polyOf(0, last...)},
		{"a constant that is 0", slanted(), []int64{2}, polyOf(0)},
		{"a constant", sized(), []int64{2}, polyOf(1)},
		{"a term without variables", slanted(), []int64{0, 1, 2, 1, 1, 2}, polyOf(5)},
		{"a variable that is far above the other one", slanted(), []int64{0, -1, -24}, polyOf(1, append([]int64{2}, last[1:]...)...)},
		{"a variable that is far below the other one", slanted(), []int64{0, -24, -1}, polyOf(1, append([]int64{1}, append(make([]int64, 22), 2)...)...)},
		{"only a variable that is far above 0", slanted(), []int64{1, 0, -6, 2}, polyOf(2, 0, 0, 0, 0, 0, 2)},
		{"the same variable on both sides", slanted(), []int64{0, -2, -2}, polyOf(1, 0, 3)},
		{"a variable that counts for nothing", blind(), []int64{0, -1, -2}, polyOf(0, 1, 0)},
		{"the greatest variable counts for nothing", blind(), []int64{0, -1, -24}, polyOf(0, append([]int64{1}, make([]int64, 23)...)...)},
		{"the only variable counts for nothing", blind(), []int64{0, 1, 2, 1, -3}, polyOf(1, 0, 0, 0)},
		{"a constant that counts for nothing", blind(), []int64{0, -1, 1, 1, 2}, polyOf(0, 1)},
		{"nothing counts", valuation{polyOf(7, 0, 0), polyOf(1, 1), polyOf(9)}, []int64{0, 1, -2, 2}, polyOf(7, 0, 0)},
		{"all numbers 0", valuation{polyOf(0, 0, 0), polyOf(0, 0), polyOf(0)}, big(), polyOf(0, 0, 0, 0)},
		{"all numbers MaxCoef", valuation{polyOf(9, 9, 9), polyOf(9, 9), polyOf(9)}, []int64{0, 1, -1, 2}, polyOf(171, 81)},
		{"all variables", slanted(), []int64{0, 0, -1, -2, 0, -3, -4}, polyOf(4, 4, 2, 2, 1)},
		{"MaxTerm numbers", sized(), nested(60), polyOf(60)},
		{"MaxTerm numbers, by another interpretation", slanted(), nested(60), polyOf(59)},
		{"59 numbers around the last variable", slanted(), append(nested(60)[:59], -24), polyOf(59, last...)},
		{"59 numbers", slanted(), comb(59), polyOf(29, last...)},
	}
	for _, c := range cases {
		t.Run(c.name, func(t *testing.T) { checkForm(t, c.name, abc(), c.v, c.nums, c.want, true) })
	}
	three := impl.Sig{Arity: []int64{3, 0}}
	checkForm(t, "three arguments", three, valuation{polyOf(5, 2, 3, 4), polyOf(1)}, []int64{0, -2, 0, 1, -1, -2, -1}, polyOf(5+3*7, 3*3+4, 2+3*4), true)
	checkForm(t, "eight symbols", wide(), impl.SizePolys(wide()), wideTerm(58), polyOf(58), true)
}

// The greatest numbers of a form, and the numbers above them.
func TestFormsAtTheLimit(t *testing.T) {
	x, y, c := variable(0), variable(1), grown(3)
	cases := []struct {
		name string
		x    tree
		want impl.Poly
		has  bool
	}{
		{"the constant is MaxForm", brimful(c), polyOf(greatestForm), true},
		{"a coefficient is MaxForm", brimful(x), polyOf(0, greatestForm), true},
		{"a later coefficient is MaxForm", brimful(y), polyOf(0, 0, greatestForm), true},
		{"a coefficient is MaxForm, the constant is 1", grown(2, brimful(x)), polyOf(1, greatestForm), true},
		{"all numbers are MaxForm", brimful(grown(2, grown(4, x, y))), polyOf(greatestForm, greatestForm, greatestForm), true},
		{"the constant is one above", over(), impl.Poly{}, false},
		{"the constant is one above, with variables", grown(4, over(), grown(4, x, y)), impl.Poly{}, false},
		{"the first coefficient is one above", grown(4, brimful(x), x), impl.Poly{}, false},
		{"the first coefficient is one above, the other way round", grown(4, x, brimful(x)), impl.Poly{}, false},
		{"the second coefficient is one above", grown(4, brimful(y), grown(4, x, y)), impl.Poly{}, false},
		{"the last coefficient is one above", grown(4, brimful(variable(23)), variable(23)), impl.Poly{}, false},
		{"another coefficient is 1", grown(4, brimful(x), y), polyOf(0, greatestForm, 1), true},
		{"two constants that are MaxForm together", grown(4, powers(3, 12, c), powers(3, 12, raised(6, c))), polyOf(greatestForm), true},
		{"two constants, one above", raised(1, grown(4, powers(3, 12, c), powers(3, 12, raised(6, c)))), impl.Poly{}, false},
		{"8 times more", grown(0, brimful(x)), impl.Poly{}, false},
		{"8 times 0", grown(0, brimful(grown(7, x))), polyOf(0, 0), true},
	}
	sig, v := growth()
	for _, z := range cases {
		t.Run(z.name, func(t *testing.T) {
			checkForm(t, z.name, sig, v, z.x.notation(), z.want, z.has)
			if f := v.formed(z.x); f.has != z.has || !equalPolys(f.form, z.want) {
				t.Error(f)
			}
		})
	}
}

// A term without a form is in no term that has one, even if it counts for nothing there.
func TestSubtermsWithoutAForm(t *testing.T) {
	x := variable(0)
	sig, v := growth()
	for _, without := range []tree{over(), grown(4, brimful(x), x), grown(0, brimful(x)), powers(7, 12, grown(3)), powers(20, 0, x), powers(0, 58, x)} {
		for _, around := range []tree{grown(5, x, without), grown(6, without, x), grown(7, without), grown(2, without), grown(7, grown(7, without)), grown(7, grown(4, x, grown(0, without)))} {
			if around.size() <= impl.MaxTerm {
				checkForm(t, "inside", sig, v, around.notation(), impl.Poly{}, false)
			}
		}
	}
	checkForm(t, "taken away", sig, v, grown(5, x, brimful(x)).notation(), polyOf(0, 1), true)
	checkForm(t, "taken away, the other one", sig, v, grown(6, brimful(x), grown(3)).notation(), polyOf(1, 0), true)
	checkForm(t, "taken away, alone", sig, v, grown(7, brimful(grown(3))).notation(), polyOf(0), true)
}

// Towers of every height, with every coefficient: powers that wrap around in 64 bits have
// no form either.
func TestFormsOfTowers(t *testing.T) {
	held := map[bool]int{}
	for coef := range int64(10) {
		for _, constant := range []int64{0, 9} {
			v := valuation{polyOf(0, 1, 1), polyOf(constant, coef), polyOf(1)}
			for high := range 60 {
				for _, end := range []tree{variable(2), {head: 2}} {
					x := v.formed(tower(high, end))
					checkForm(t, "a tower", abc(), v, x.notation(), x.form, x.has)
					held[x.has]++
				}
			}
		}
	}
	if held[true] < 800 || held[false] < 800 {
		t.Error("too few of the towers test much", held)
	}
}

func TestFormsOfSmallTerms(t *testing.T) {
	checked := 0
	for _, a := range valuedArenas(makerOf(92), []int64{-1, -24}, 4) {
		for _, x := range a.v.allFormed(a.trees) {
			checkForm(t, "", a.sig, a.v, x.notation(), x.form, x.has)
			checked++
		}
	}
	if checked < 10000 {
		t.Error("too few of the terms test much", checked)
	}
}

func TestFormsOfLongTerms(t *testing.T) {
	m, held := makerOf(93), map[bool]int{}
	check := func(sig impl.Sig, v valuation, x tree) {
		f := v.formed(x)
		checkForm(t, "", sig, v, x.notation(), f.form, f.has)
		held[f.has]++
	}
	for i := range 600 {
		sig := m.book().sig
		check(sig, m.valuation(sig, leasts()[i%4]), m.tree(sig, 2+m.Int64N(59)))
	}
	sig, v := growth()
	for range 300 {
		check(sig, v, m.tree(sig, 2+m.Int64N(59)))
	}
	for _, x := range deepTrees() {
		for i := range 12 {
			check(abc(), m.valuation(abc(), leasts()[i%4]), x)
		}
	}
	if held[true] < 500 || held[false] < 100 {
		t.Error("too few of the terms test much", held)
	}
}

// The form of a term is that of its symbol for the forms of its arguments, and has a
// coefficient for each variable up to the greatest one.
func TestFormOfATermAndItsArguments(t *testing.T) {
	m := makerOf(94)
	for i := range 1000 {
		sig := m.book().sig
		v, x := m.valuation(sig, int64(i%2)), m.tree(sig, 2+m.Int64N(30))
		got, is := impl.FormOf(sig, v, x.notation())
		if !is {
			continue
		}
		want := impl.Poly{Const: v[x.head].Const, Coef: make([]int64, impl.BehindOf(sig, x.notation()))}
		for k, arg := range x.args {
			f, _ := impl.FormOf(sig, v, arg.notation())
			want.Const += v[x.head].Coef[k] * f.Const
			for i, n := range f.Coef {
				want.Coef[i] += v[x.head].Coef[k] * n
			}
		}
		if !equalPolys(got, want) {
			t.Fatal(sig, v, x.notation(), got, want)
		}
	}
}

// The variables count in the order of their numbers, wherever they occur.
func TestFormsOfRenamedTerms(t *testing.T) {
	m := makerOf(95)
	for i := range 300 {
		sig := m.book().sig
		v, x := m.valuation(sig, int64(i%2)), m.tree(sig, 2+m.Int64N(40))
		f := filling{0: variable(23), 10: variable(4), 20: variable(0)}
		here, is := impl.FormOf(sig, v, x.notation())
		there, are := impl.FormOf(sig, v, x.filled(f).notation())
		if is != are || here.Const != there.Const {
			t.Fatal(sig, v, x.notation(), here, there)
		}
		for _, from := range []int64{0, 10, 20} {
			if coefficient(here, from) != coefficient(there, -1-f[from].head) {
				t.Fatal(sig, v, x.notation(), here, there)
			}
		}
		if slices.ContainsFunc([]impl.Poly{here, there}, func(f impl.Poly) bool { return f.Const < 0 || len(f.Coef) > 24 }) {
			t.Fatal(sig, v, x.notation(), here, there)
		}
	}
}
