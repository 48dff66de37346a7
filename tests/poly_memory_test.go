package tests

import (
	"slices"
	"testing"

	"loop.example/g00895/impl"
)

// A polyCall is a function of chapter 15 on the arguments that the tests vary. Its result
// is given as Polys: a number is the constant of one.
type polyCall struct {
	name string
	run  func(x polyArgs) []impl.Poly
}

// The arguments of a polyCall, valid or not.
type polyArgs struct {
	sys    impl.System
	ps     []impl.Poly
	a, b   []int64
	values []int64
}

func polyCalls() []polyCall {
	number := func(n int64) []impl.Poly { return []impl.Poly{polyOf(n)} }
	is := func(is bool) []impl.Poly { return number(numberOf(is)) }
	return []polyCall{
		{"PolysOk", func(x polyArgs) []impl.Poly { return is(impl.PolysOk(x.sys.Sig, x.ps)) }},
		{"FormOf", func(x polyArgs) []impl.Poly {
			form, has := impl.FormOf(x.sys.Sig, x.ps, x.a)
			return []impl.Poly{form, polyOf(numberOf(has))}
		}},
		{"ValueAt", func(x polyArgs) []impl.Poly {
			value, has := impl.ValueAt(x.sys.Sig, x.ps, x.a, x.values)
			return append(number(value), is(has)...)
		}},
		{"PolyLess", func(x polyArgs) []impl.Poly { return is(impl.PolyLess(x.sys.Sig, x.ps, x.a, x.b)) }},
		{"PolyAtMost", func(x polyArgs) []impl.Poly { return is(impl.PolyAtMost(x.sys.Sig, x.ps, x.a, x.b)) }},
		{"StrictIn", func(x polyArgs) []impl.Poly { return is(impl.StrictIn(x.sys.Sig, x.ps)) }},
		{"PolyOrients", func(x polyArgs) []impl.Poly { return is(impl.PolyOrients(x.sys, x.ps)) }},
		{"PolyAllows", func(x polyArgs) []impl.Poly { return is(impl.PolyAllows(x.sys, x.ps)) }},
		{"SizePolys", func(x polyArgs) []impl.Poly { return impl.SizePolys(x.sys.Sig) }},
	}
}

// A polyGuard is a list of Polys with room behind its length and behind those of its
// coefficients. It notices a write to any of it.
type polyGuard struct {
	ps     []impl.Poly
	before []impl.Poly
	coefs  []guard
}

func polyGuardOf(ps []impl.Poly) polyGuard {
	g := polyGuard{}
	for _, p := range append(slices.Clone(ps), slanted()...) {
		coefs := guardOf(p.Coef)
		g.coefs = append(g.coefs, coefs)
		g.before = append(g.before, impl.Poly{Const: p.Const, Coef: coefs.nums})
	}
	whole := slices.Clip(slices.Clone(g.before))
	g.ps = whole[:len(ps)]
	return g
}

func (g polyGuard) touched() bool {
	isSame := func(a, b impl.Poly) bool { return a.Const == b.Const && isOneSlice(a.Coef, b.Coef) }
	return !slices.EqualFunc(g.ps[:len(g.before)], g.before, isSame) || slices.ContainsFunc(g.coefs, guard.touched)
}

// overwritePolys changes all the memory that a result reaches.
func overwritePolys(ps []impl.Poly) {
	whole := ps[:cap(ps)]
	for i := range whole {
		overwrite(whole[i].Coef)
		whole[i] = polyOf(-8888, -8888)
	}
}

func samePolys(a, b []impl.Poly) bool { return slices.EqualFunc(a, b, equalPolys) }

func polySamples() []polyArgs {
	var found []polyArgs
	m := makerOf(110)
	for i := range 60 {
		sig := m.book().sig
		v := m.valuation(sig, leasts()[i%4])
		b, x := m.orientedBy(sig, v.less), m.tree(sig, 2+m.Int64N(40))
		values := m.someValues()
		found = append(found, polyArgs{b.system(), v, x.notation(), m.gathered(sig, x).notation(), values[i%len(values)]})
		found = append(found, polyArgs{b.system(), v, m.spot(x).sub.notation(), x.notation(), []int64{5, 1001}})
	}
	deep := deepTrees()
	for i, ps := range append(somePolys(), badPolys()[2].ps, badPolys()[9].ps) {
		for j, x := range deep {
			found = append(found, polyArgs{sums(), ps, x.notation(), deep[(i+j*2)%len(deep)].notation(), m.someValues()[j%8]})
		}
	}
	sig, v := growth()
	for _, x := range []tree{brimful(variable(3)), over(), grown(5, variable(1), over()), variable(23), grown(3)} {
		found = append(found, polyArgs{impl.System{Sig: sig}, v, x.notation(), raised(1, x).notation(), []int64{1, 2, 3}})
	}
	for _, sys := range someSystems() {
		for _, r := range sys.Rules {
			found = append(found, polyArgs{sys, impl.SizePolys(sys.Sig), r.R, r.L, slices.Repeat([]int64{9}, 24)})
		}
	}
	for _, x := range badPolys() {
		found = append(found, polyArgs{impl.System{Sig: x.sig}, x.ps, []int64{-1}, []int64{1, -1}, make([]int64, 25)})
	}
	return found
}

// No function modifies an argument, nor what is behind its length, or returns memory of one.
func TestPolyArgumentsAreNotModified(t *testing.T) {
	results := map[string][][]impl.Poly{}
	for i, x := range polySamples() {
		for _, c := range polyCalls() {
			sys, ps := systemGuardOf(x.sys), polyGuardOf(x.ps)
			a, b, values := guardOf(x.a), guardOf(x.b), guardOf(x.values)
			touched := func() bool {
				return sys.touched() || ps.touched() || a.touched() || b.touched() || values.touched()
			}
			got := c.run(polyArgs{sys.sys, ps.ps, a.nums, b.nums, values.nums})
			if touched() {
				t.Fatalf("%s modifies an argument: sample %d", c.name, i)
			}
			if want := c.run(x); !samePolys(got, want) {
				t.Fatal(c.name, "sees what is behind a length", i, got, want)
			}
			results[c.name] = append(results[c.name], clonePolys(got))
			overwritePolys(got)
			if touched() {
				t.Fatalf("the result of %s shares memory with an argument: sample %d", c.name, i)
			}
		}
	}
	for name, all := range results {
		isFirst := func(ps []impl.Poly) bool { return samePolys(ps, all[0]) }
		if len(slices.DeleteFunc(slices.Clone(all), isFirst)) == 0 {
			t.Error("the samples test too little", name)
		}
	}
}

// One slice may be several arguments: the coefficients of several Polys and the values, the
// terms each other or parts of each other.
func TestPolyArgumentsOfOneSlice(t *testing.T) {
	for _, nums := range append(someTerms(), []int64{0, -1, 1, -1}, twice(nested(29))) {
		for at := range int64(len(nums)) {
			for _, c := range polyCalls() {
				g, shared := guardOf(nums), guardOf([]int64{2, 1})
				part := g.nums[at:impl.EndOf(abc(), nums, at)]
				sys := impl.System{Sig: abc(), Rules: []impl.Rule{{L: g.nums, R: part}, {L: part, R: part}}}
				ps := valuation{polyOf(1, shared.nums...), polyOf(1, shared.nums[:1]...), polyOf(0, shared.nums[:0]...)}
				got := c.run(polyArgs{sys, ps, part, g.nums, shared.nums})
				apart := slices.Clone(part)
				sys = impl.System{Sig: abc(), Rules: []impl.Rule{{L: nums, R: apart}, {L: apart, R: apart}}}
				want := c.run(polyArgs{sys, valuation{polyOf(1, 2, 1), polyOf(1, 2), polyOf(0)}, apart, nums, []int64{2, 1}})
				if !samePolys(got, want) || g.touched() || shared.touched() {
					t.Fatal(c.name, nums, at, got, want)
				}
				overwritePolys(got)
				if g.touched() || shared.touched() {
					t.Fatalf("the result of %s shares memory with an argument: %v, %d", c.name, nums, at)
				}
			}
		}
	}
	// The arities too may be coefficients, and the values a term.
	arity := []int64{2, 1, 0}
	ps := valuation{polyOf(1, arity[:2]...), polyOf(1, arity[1:2]...), polyOf(0, arity[:0]...)}
	checkForm(t, "the arities", impl.Sig{Arity: arity}, ps, []int64{0, -1, -2}, polyOf(1, 2, 1), true)
	checkValue(t, "the arities", impl.Sig{Arity: arity}, ps, []int64{0, -1, -2}, arity, 6, true)
	checkValue(t, "the term itself", abc(), sized(), []int64{0, 2, 2}, []int64{0, 2, 2}, 3, true)
	if !slices.Equal(arity, []int64{2, 1, 0}) {
		t.Error("the arities", arity)
	}
}

// What is behind the length of a slice is no part of it.
func TestPolysBehindTheLength(t *testing.T) {
	sig := impl.Sig{Arity: []int64{2, 1, 0, -1, 4}[:3]}
	ps := append(slanted(), polyOf(10, 1), impl.Poly{})
	ps[0].Coef, ps[2].Coef = []int64{2, 1, 99, -1}[:2], []int64{7}[:0]
	s, more := []int64{-1, 0, 0}[:1], []int64{1, -1, 7, 7}[:2]
	for size := range 6 {
		checkPolys(t, "Polys behind a length", sig, ps[:size], size == 3, size == 3)
		checkPolyOrder(t, "Polys behind a length", sig, ps[:size], s, more, size == 3, size == 3)
	}
	checkForm(t, "numbers behind a length", sig, ps[:3], []int64{0, -1, -2, -3}[:3], polyOf(1, 2, 1), true)
	values := slices.Repeat([]int64{5}, 24)
	checkValue(t, "values behind a length", sig, ps[:3], []int64{0, -1, -2}, append(values, -1, 2000)[:24], 16, true)
	checkValue(t, "values behind a length", sig, ps[:3], []int64{0, -1, -2}, values[:1], 11, true)
	if got := impl.SizePolys(sig); !samePolys(got, sized()) {
		t.Error("arities behind a length", got)
	}
	rules := append(bookOf(shrink(), merge(), grow()).system().Rules, impl.Rule{})
	for size := range 5 {
		checkPolyOrients(t, "rules behind a length", impl.System{Sig: sig, Rules: rules[:size]}, ps[:3], size < 3, size < 3)
	}
}

// No result is kept and returned again.
func TestPolyResultsAreNew(t *testing.T) {
	for _, c := range polyCalls() {
		for i, x := range polySamples() {
			first := c.run(x)
			kept := clonePolys(first)
			overwritePolys(c.run(x))
			if !samePolys(first, kept) {
				t.Fatalf("two results of %s share memory: sample %d", c.name, i)
			}
			overwritePolys(first)
			if third := c.run(x); !samePolys(third, kept) {
				t.Fatalf("a result of %s was kept: sample %d", c.name, i)
			}
		}
	}
}

// The Polys of one list share no memory, not even behind their lengths.
func TestSizePolysAreApart(t *testing.T) {
	sigs := append(orderedSigs(), abc(), wide(), impl.Sig{Arity: slices.Repeat([]int64{3}, 8)}, impl.Sig{Arity: slices.Repeat([]int64{1}, 8)})
	for _, sig := range sigs {
		want := clonePolys(impl.SizePolys(sig))
		for changed := range want {
			got := impl.SizePolys(sig)
			overwrite(got[changed].Coef)
			for other, p := range got {
				whole := p.Coef[:cap(p.Coef)]
				if other != changed && (!equalPolys(p, want[other]) || slices.Contains(whole, -9999)) {
					t.Fatalf("Polys %d and %d share memory: %v", changed, other, sig)
				}
			}
		}
	}
}

// A result that was kept for the memory of an argument would be wrong for what that
// memory holds later.
func TestPolysFollowTheContents(t *testing.T) {
	sig, v, s, more, values := abc(), slanted(), []int64{1, -1}, []int64{0, -1, -2}, []int64{10, 3}
	sys := impl.System{Sig: sig, Rules: []impl.Rule{{L: more, R: s}}}
	check := func(value int64, form impl.Poly, less, atMost, strict bool) {
		t.Helper()
		has := value > 0
		checkForm(t, "", sig, v, more, form, has)
		checkValue(t, "", sig, v, more, values, value, has)
		checkPolyOrder(t, "", sig, v, s, more, less, atMost)
		checkPolyOrients(t, "", sys, v, less && strict, atMost)
		checkPolys(t, "", sig, v, has, has && strict)
	}
	check(24, polyOf(1, 2, 1), false, true, true)
	v[0].Const = 2
	check(25, polyOf(2, 2, 1), true, true, true)
	v[0].Coef[0] = 0
	check(5, polyOf(2, 0, 1), false, false, false)
	v[0].Coef[0] = 1
	check(15, polyOf(2, 1, 1), true, true, true)
	v[0].Coef[1] = 0
	check(12, polyOf(2, 1, 0), true, true, false)
	values[0] = 20
	check(22, polyOf(2, 1, 0), true, true, false)
	v[1].Coef[0] = 3
	check(22, polyOf(2, 1, 0), false, false, false)
	v[1] = polyOf(1, 1)
	check(22, polyOf(2, 1, 0), true, true, false)
	s[1] = -2
	check(22, polyOf(2, 1, 0), false, false, false)
	more[1] = -2
	check(5, polyOf(2, 0, 1), true, true, false)
	v[2].Const = 10
	check(0, impl.Poly{}, false, false, false)
	v[2].Const = 9
	check(5, polyOf(2, 0, 1), true, true, false)
	sig.Arity[2] = 1
	check(0, impl.Poly{}, false, false, false)
}
