package tests

import (
	"math"
	"slices"
	"testing"

	"loop.example/g00895/impl"
)

func checkPolys(t *testing.T, name string, sig impl.Sig, ps []impl.Poly, ok, strict bool) {
	t.Helper()
	if got := impl.PolysOk(sig, ps); got != ok {
		t.Fatal("PolysOk", name, sig, ps, got)
	}
	if got := impl.StrictIn(sig, ps); got != strict {
		t.Fatal("StrictIn", name, sig, ps, got)
	}
}

func TestPolysOk(t *testing.T) {
	if impl.MaxCoef != 9 || impl.MaxForm != greatestForm {
		t.Fatal(impl.MaxCoef, impl.MaxForm)
	}
	three, one := impl.Sig{Arity: []int64{3}}, impl.Sig{Arity: []int64{0}}
	checkPolys(t, "the document's example", abc(), slanted(), true, true)
	checkPolys(t, "empty coefficients", abc(), []impl.Poly{polyOf(1, 2, 1), polyOf(1, 1), {Coef: []int64{}}}, true, true)
	checkPolys(t, "all numbers 0", abc(), []impl.Poly{polyOf(0, 0, 0), polyOf(0, 0), polyOf(0)}, true, false)
	checkPolys(t, "all numbers MaxCoef", abc(), []impl.Poly{polyOf(9, 9, 9), polyOf(9, 9), polyOf(9)}, true, true)
	checkPolys(t, "the least strict numbers", abc(), []impl.Poly{polyOf(0, 1, 1), polyOf(0, 1), polyOf(0)}, true, true)
	checkPolys(t, "one coefficient is 0", abc(), blind(), true, false)
	checkPolys(t, "the first coefficient is 0", abc(), []impl.Poly{polyOf(9, 0, 9), polyOf(9, 9), polyOf(9)}, true, false)
	checkPolys(t, "the coefficient of f1 is 0", abc(), []impl.Poly{polyOf(9, 9, 9), polyOf(9, 0), polyOf(9)}, true, false)
	checkPolys(t, "three coefficients", three, []impl.Poly{polyOf(0, 1, 2, 3)}, true, true)
	checkPolys(t, "the third coefficient is 0", three, []impl.Poly{polyOf(1, 1, 1, 0)}, true, false)
	checkPolys(t, "the second coefficient is 0", three, []impl.Poly{polyOf(1, 1, 0, 1)}, true, false)
	checkPolys(t, "a constant alone", one, []impl.Poly{polyOf(0)}, true, true)
	checkPolys(t, "a constant alone, MaxCoef", one, []impl.Poly{polyOf(9)}, true, true)
	checkPolys(t, "constants only", impl.Sig{Arity: make([]int64, 8)}, make([]impl.Poly, 8), true, true)
	checkPolys(t, "eight symbols", wide(), impl.SizePolys(wide()), true, true)
	sig, v := growth()
	checkPolys(t, "eight symbols, some coefficients 0", sig, v, true, false)
	for _, x := range badPolys() {
		checkPolys(t, x.name, x.sig, x.ps, false, false)
		if valuation(x.ps).isMeant(x.sig) {
			t.Error(x.name)
		}
	}
}

// Every number at every place, near the limits and far beyond them.
func TestPolysOkOfOneNumber(t *testing.T) {
	numbers := []int64{1 << 32, 1<<32 + 1, math.MaxInt64, math.MinInt64, math.MinInt64 + 1}
	for n := range int64(50) {
		numbers = append(numbers, n-25)
	}
	for _, n := range numbers {
		isIn := n >= 0 && n <= 9
		for _, v := range []valuation{
			{polyOf(n, 1, 1), polyOf(1, 1), polyOf(1)},
			{polyOf(1, 1, 1), polyOf(n, 1), polyOf(1)},
			{polyOf(1, 1, 1), polyOf(1, 1), polyOf(n)},
		} {
			checkPolys(t, "a constant", abc(), v, isIn, isIn)
		}
		for _, v := range []valuation{
			{polyOf(1, n, 1), polyOf(1, 1), polyOf(1)},
			{polyOf(1, 1, n), polyOf(1, 1), polyOf(1)},
			{polyOf(1, 1, 1), polyOf(1, n), polyOf(1)},
		} {
			checkPolys(t, "a coefficient", abc(), v, isIn, isIn && n > 0)
		}
	}
}

// All signatures of up to two symbols with numbers at the limits, and with lists of Polys
// and of coefficients that are too short or too long.
func TestPolysOkOfShortLists(t *testing.T) {
	pool := []impl.Poly{{}, polyOf(9), polyOf(10), polyOf(-1)}
	for _, n := range []int64{-1, 0, 1, 9, 10} {
		pool = append(pool, polyOf(0, n), polyOf(1, 1, n), polyOf(9, n, 9), polyOf(0, 1, 2, n), polyOf(0, 1, 1, 1, n))
	}
	pool = append(pool, polyOf(-1, 1), polyOf(10, 1, 1), polyOf(10, 1, 1, 1), polyOf(-1, 9, 9, 9))
	good, strict, bad := 0, 0, 0
	for _, arity := range slicesOf(everyPlace(4), 2)[1:] {
		sig := impl.Sig{Arity: arity}
		for _, places := range slicesOf(everyPlace(int64(len(pool))), 3) {
			var v valuation
			for _, i := range places {
				v = append(v, pool[i])
			}
			isGood := v.isMeant(sig)
			checkPolys(t, "", sig, v, isGood, isGood && v.isStrict())
			switch {
			case !isGood:
				bad++
			case v.isStrict():
				strict++
			default:
				good++
			}
		}
	}
	if good < 100 || strict < 100 || bad < 100000 {
		t.Error("too few of the lists test much", good, strict, bad)
	}
}

func TestStrictIn(t *testing.T) {
	seen := map[bool]int{}
	for _, v := range valuationsOf(abc(), []int64{0, 9}, []int64{0, 1, 9}) {
		checkPolys(t, "", abc(), v, true, v.isStrict())
		seen[v.isStrict()]++
	}
	m := makerOf(90)
	for i := range 2000 {
		sig := m.book().sig
		v := m.valuation(sig, int64(i%2))
		checkPolys(t, "", sig, v, true, v.isStrict())
		seen[v.isStrict()]++
	}
	if seen[true] < 1000 || seen[false] < 500 {
		t.Error("too few of the interpretations test much", seen)
	}
}

func TestSizePolys(t *testing.T) {
	if got := impl.SizePolys(abc()); !slices.EqualFunc(got, sized(), equalPolys) {
		t.Error("the document's example", got)
	}
	if got := impl.SizePolys(impl.Sig{Arity: []int64{3, 0}}); !slices.EqualFunc(got, []impl.Poly{polyOf(1, 1, 1, 1), polyOf(1)}, equalPolys) {
		t.Error("three arguments", got)
	}
	for _, sig := range allSigs() {
		got := impl.SizePolys(sig)
		isOne := func(p impl.Poly) bool {
			return p.Const == 1 && !slices.ContainsFunc(p.Coef, func(n int64) bool { return n != 1 })
		}
		if !slices.EqualFunc(got, sig.Arity, func(p impl.Poly, n int64) bool { return isOne(p) && int64(len(p.Coef)) == n }) {
			t.Fatal(sig, got)
		}
		checkPolys(t, "all signatures", sig, got, true, true)
	}
	for _, sig := range badSigs() {
		got := impl.SizePolys(sig)
		if len(got) != 0 {
			t.Error(sig, got)
		}
		checkPolys(t, "a bad signature", sig, got, false, false)
	}
}

// By the sizes the value of a term without variables is its number of symbols, and every
// other number of the form tells how often a variable is there.
func TestSizePolysCountSymbols(t *testing.T) {
	m := makerOf(91)
	check := func(sig impl.Sig, x tree) {
		t.Helper()
		ps, ones := impl.SizePolys(sig), slices.Repeat([]int64{1}, 24)
		if got, is := impl.ValueAt(sig, ps, x.notation(), ones); !is || got != x.size() {
			t.Fatal(sig, x.notation(), got)
		}
		form, is := impl.FormOf(sig, ps, x.notation())
		if !is || form.Const != int64(len(x.symPlaces(0))) {
			t.Fatal(sig, x.notation(), form)
		}
		for i := range int64(24) {
			if coefficient(form, i) != x.count(-1-i) {
				t.Fatal(sig, x.notation(), form)
			}
		}
	}
	for _, sig := range append(orderedSigs(), abc()) {
		for size := int64(1); size <= 4; size++ {
			for _, x := range treesOf(sig, []int64{-1, -24}, size) {
				check(sig, x)
			}
		}
	}
	for range 300 {
		sig := m.book().sig
		check(sig, m.tree(sig, 1+m.Int64N(60)))
	}
	for _, x := range deepTrees() {
		check(abc(), x)
	}
	check(abc(), tower(59, tree{head: 2}))
}
