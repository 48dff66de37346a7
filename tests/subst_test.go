package tests

import (
	"math"
	"slices"
	"testing"

	"loop.example/g00895/impl"
)

func substOf(terms ...[]int64) impl.Subst { return impl.Subst{Terms: terms} }

// only returns the substitution that replaces one variable and has no elements
// behind it.
func only(i int64, t []int64) impl.Subst {
	s := substOf(make([][]int64, i+1)...)
	s.Terms[i] = t
	return s
}

// full returns MaxVars elements, all equal to t.
func full(t []int64) impl.Subst {
	return substOf(slices.Repeat([][]int64{t}, impl.MaxVars)...)
}

// mixed is the document's example x0 -> f1(x1), x2 -> f2, x3 -> x3, with an
// empty element more.
func mixed() impl.Subst { return substOf([]int64{1, -2}, nil, []int64{2}, []int64{-4}, []int64{}) }

func equalTerms(a, b [][]int64) bool { return slices.EqualFunc(a, b, slices.Equal[[]int64]) }

func isPlain(s impl.Subst) bool {
	for i, t := range s.Terms {
		if slices.Equal(t, []int64{-1 - int64(i)}) {
			return false
		}
	}
	return len(s.Terms) == 0 || len(s.Terms[len(s.Terms)-1]) > 0
}

// A badSubst is a substitution that is not valid for its signature, which may
// not be valid either.
type badSubst struct {
	name string
	sig  impl.Sig
	s    impl.Subst
}

func badSubsts() []badSubst {
	found := []badSubst{
		{"25 elements", abc(), substOf(slices.Repeat([][]int64{{2}}, 25)...)},
		{"25 elements, all empty", abc(), substOf(make([][]int64, 25)...)},
		{"25 elements, the first 24 empty", abc(), only(24, []int64{2})},
		{"25 elements, the last one empty", abc(), substOf(append(full([]int64{2}).Terms, nil)...)},
		{"many elements", abc(), substOf(make([][]int64, 5000)...)},
		{"a bad element before good ones", abc(), substOf([]int64{0}, []int64{2}, nil)},
		{"a bad element behind good ones", abc(), substOf([]int64{2}, nil, []int64{-1}, []int64{1})},
		{"a bad element among 24", abc(), only(23, []int64{2, 2})},
		{"the symbols of another signature", wide(), substOf([]int64{0, -1, -1})},
	}
	for _, x := range noTerms() {
		if len(x.nums) > 0 {
			found = append(found, badSubst{x.name, x.sig, substOf(x.nums)}, badSubst{x.name, x.sig, only(5, x.nums)})
		}
	}
	for _, sig := range badSigs() {
		found = append(found, badSubst{"no signature, no elements", sig, substOf()})
		found = append(found, badSubst{"no signature, an empty element", sig, substOf(nil)})
	}
	return found
}

func TestSubstOk(t *testing.T) {
	good := []impl.Subst{
		{}, substOf(), substOf(nil), substOf([]int64{}, nil), mixed(), substOf([]int64{-1}), substOf(nil, []int64{-24}),
		substOf(make([][]int64, 24)...), full([]int64{2}), full([]int64{-24}), full(nested(60)), only(23, comb(59)),
	}
	for _, s := range good {
		if !impl.SubstOk(abc(), s) {
			t.Error(s, "is valid")
		}
	}
	if !impl.SubstOk(wide(), substOf(nil, wideTerm(58), []int64{4, -1, -24, 0})) {
		t.Error("wide")
	}
	for _, x := range badSubsts() {
		if impl.SubstOk(x.sig, x.s) {
			t.Error(x.name, x.sig.Arity, "is not valid")
		}
	}
	for size := range 60 {
		if impl.SubstOk(abc(), substOf(make([][]int64, size)...)) != (size <= 24) {
			t.Error(size, "elements")
		}
		if size > 0 && impl.SubstOk(abc(), only(int64(size), nested(2*size))) != (size <= 23) {
			t.Error("an element", size)
		}
	}
}

// A substitution is valid exactly if each element is a term or empty.
func TestSubstOkOfAllShortSlices(t *testing.T) {
	for _, x := range slicesOf([]int64{-25, -1, 0, 1, 2, 3}, 4) {
		want := len(x) == 0 || impl.TermOk(abc(), x)
		if impl.SubstOk(abc(), substOf(x)) != want || impl.SubstOk(abc(), substOf([]int64{2}, x, nil)) != want {
			t.Fatal(x, want)
		}
	}
}

func TestPlainOf(t *testing.T) {
	long := full([]int64{-24})
	cases := []struct{ s, want impl.Subst }{
		{mixed(), substOf([]int64{1, -2}, nil, []int64{2})},
		{substOf(), substOf()},
		{substOf(nil, []int64{}, nil), substOf()},
		{substOf([]int64{-1}), substOf()},
		{substOf([]int64{-1}, nil, []int64{-3}), substOf()},
		{substOf([]int64{-2}, []int64{-2}), substOf([]int64{-2})},
		{substOf([]int64{-1}, []int64{-1}), substOf(nil, []int64{-1})},
		{substOf([]int64{1, -1}, []int64{-2}, nil), substOf([]int64{1, -1})},
		{substOf(make([][]int64, 24)...), substOf()},
		{only(23, []int64{-24}), substOf()},
		{only(23, []int64{-23}), only(23, []int64{-23})},
		{long, substOf(long.Terms[:23]...)},
		{full(nested(60)), full(nested(60))},
	}
	for _, c := range cases {
		if got := impl.PlainOf(abc(), c.s); !equalTerms(got.Terms, c.want.Terms) {
			t.Error(c.s, got, c.want)
		}
	}
	for _, x := range badSubsts() {
		if got := impl.PlainOf(x.sig, x.s); len(got.Terms) != 0 {
			t.Error(x.name, x.sig.Arity, got)
		}
	}
}

// someFillings are all replacements of x0, x1 and x23 by small trees.
func someFillings() []filling {
	return fillingsOf([]int64{0, 1, 23}, []tree{variable(0), variable(1), variable(23), {head: 2}, {head: 1, args: []tree{variable(1)}}})
}

func TestPlainOfSmallFillings(t *testing.T) {
	for _, f := range someFillings() {
		for _, size := range []int64{0, 2, 3, 24} {
			s := f.subst(size)
			got := impl.PlainOf(abc(), s)
			if !equalTerms(got.Terms, f.plain().Terms) || !isPlain(got) || !impl.SameSubst(abc(), s, got) {
				t.Fatal(s, got)
			}
		}
	}
}

func TestSameSubst(t *testing.T) {
	same := [][2]impl.Subst{
		{substOf(), substOf()}, {substOf([]int64{-1}), substOf()}, {substOf(), only(23, []int64{-24})},
		{substOf(nil, nil), substOf()}, {substOf(nil, []int64{2}), substOf([]int64{-1}, []int64{2}, nil)},
		{mixed(), substOf([]int64{1, -2}, []int64{}, []int64{2})}, {full(nested(60)), full(nested(60))},
		{substOf(make([][]int64, 24)...), substOf([]int64{-1}, nil, []int64{-3})},
	}
	for _, c := range same {
		if !impl.SameSubst(abc(), c[0], c[1]) || !impl.SameSubst(abc(), c[1], c[0]) {
			t.Error(c, "are the same")
		}
	}
	differ := [][2]impl.Subst{
		{mixed(), substOf()}, {substOf([]int64{-2}), substOf()}, {substOf([]int64{2}), substOf(nil, []int64{2})},
		{only(23, []int64{2}), substOf()}, {only(23, []int64{2}), only(22, []int64{2})},
		{substOf([]int64{2}, []int64{2}), substOf([]int64{2})}, {full(nested(60)), full(nested(59))},
		{substOf([]int64{-2}, []int64{-1}), substOf()}, {substOf([]int64{1, -1}), substOf([]int64{1, -2})},
	}
	for _, c := range differ {
		if impl.SameSubst(abc(), c[0], c[1]) || impl.SameSubst(abc(), c[1], c[0]) {
			t.Error(c, "are not the same")
		}
	}
	for _, x := range badSubsts() {
		if impl.SameSubst(x.sig, x.s, x.s) || impl.SameSubst(x.sig, x.s, substOf()) || impl.SameSubst(x.sig, substOf(), x.s) {
			t.Error(x.name, x.sig.Arity)
		}
	}
}

func TestSameSubstOfSmallFillings(t *testing.T) {
	list := someFillings()
	for _, f := range list {
		for _, g := range list {
			want := true
			for _, i := range []int64{0, 1, 23} {
				want = want && slices.Equal(f.of(i).notation(), g.of(i).notation())
			}
			if impl.SameSubst(abc(), f.subst(0), g.subst(3)) != want {
				t.Fatal(f, g, want)
			}
		}
	}
}

func TestVariablesOfTerms(t *testing.T) {
	cases := []struct {
		nums, vars []int64
		linear     bool
	}{
		{[]int64{0, -3, 0, -1, -3}, []int64{0, 2}, false},
		{big(), []int64{0, 2}, true},
		{[]int64{2}, nil, true},
		{[]int64{1, 2}, nil, true},
		{[]int64{0, 2, 2}, nil, true},
		{[]int64{-1}, []int64{0}, true},
		{[]int64{-24}, []int64{23}, true},
		{[]int64{0, -1, -1}, []int64{0}, false},
		{[]int64{0, -24, 0, -1, -24}, []int64{0, 23}, false},
		{[]int64{0, -24, 0, -1, -2}, []int64{0, 1, 23}, true},
		{[]int64{0, -1, 1, 1, -2}, []int64{0, 1}, true},
		{nested(60), nil, true},
		{comb(59), []int64{23}, true},
	}
	for _, c := range cases {
		if got := impl.VarsOf(abc(), c.nums); !slices.Equal(got, c.vars) {
			t.Error(c.nums, got, c.vars)
		}
		if impl.GroundIn(abc(), c.nums) != (len(c.vars) == 0) || impl.LinearIn(abc(), c.nums) != c.linear {
			t.Error(c.nums, c.vars, c.linear)
		}
	}
	for _, x := range noTerms() {
		if len(impl.VarsOf(x.sig, x.nums)) != 0 || impl.GroundIn(x.sig, x.nums) || impl.LinearIn(x.sig, x.nums) {
			t.Error(x.name, x.sig.Arity)
		}
	}
}

// allVars is a term of 47 elements in which each variable occurs once, the
// greatest first.
func allVars() []int64 {
	var nums []int64
	for n := int64(-impl.MaxVars); n < -1; n++ {
		nums = append(nums, 0, n)
	}
	return append(nums, -1)
}

func TestAllVariables(t *testing.T) {
	var want []int64
	for i := range int64(impl.MaxVars) {
		want = append(want, i)
	}
	if got := impl.VarsOf(abc(), allVars()); !slices.Equal(got, want) || !impl.LinearIn(abc(), allVars()) || impl.GroundIn(abc(), allVars()) {
		t.Error(got)
	}
	renamed := impl.Renamed(abc(), allVars())
	for k := range impl.MaxVars - 1 {
		if renamed[2*k] != 0 || renamed[2*k+1] != -1-int64(k) {
			t.Fatal(renamed)
		}
	}
	if len(renamed) != 47 || renamed[46] != -24 || !impl.VariantIn(abc(), allVars(), renamed) {
		t.Error(renamed)
	}
	if got, done := impl.Filled(abc(), full([]int64{2}), allVars()); !done || !impl.GroundIn(abc(), got) || len(got) != 47 {
		t.Error(got, done)
	}
}

func TestVariablesOfSmallTerms(t *testing.T) {
	for _, x := range smallTrees([]int64{-1, -2, -24}, 5) {
		nums := x.notation()
		if !slices.Equal(impl.VarsOf(abc(), nums), x.varSet()) || impl.GroundIn(abc(), nums) != (len(x.vars()) == 0) || impl.LinearIn(abc(), nums) != (len(x.vars()) == len(x.varSet())) {
			t.Fatal(nums)
		}
		if got := impl.Renamed(abc(), nums); !slices.Equal(got, x.renamed().notation()) || !impl.VariantIn(abc(), nums, got) {
			t.Fatal(nums, got)
		}
	}
}

func TestFilled(t *testing.T) {
	cases := []struct {
		s    impl.Subst
		t    []int64
		want []int64
	}{
		{mixed(), []int64{0, -1, 0, -3, -2}, []int64{0, 1, -2, 0, 2, -2}},
		{mixed(), []int64{0, -4, -24}, []int64{0, -4, -24}},
		{substOf(), big(), big()},
		{substOf(nil, []int64{}), big(), big()},
		{substOf([]int64{-2}, []int64{-1}), []int64{0, -1, -2}, []int64{0, -2, -1}},
		{substOf([]int64{1, -1}), []int64{0, -1, -1}, []int64{0, 1, -1, 1, -1}},
		{substOf([]int64{2}), []int64{-1}, []int64{2}},
		{substOf([]int64{2}), []int64{-2}, []int64{-2}},
		{only(23, []int64{1, -1}), []int64{0, -1, -24}, []int64{0, -1, 1, -1}},
		{full(nested(60)), nested(60), nested(60)},
		{full(nested(60)), []int64{-24}, nested(60)},
		{full(nested(60)), []int64{2}, []int64{2}},
	}
	for _, c := range cases {
		if got, done := impl.Filled(abc(), c.s, c.t); !done || !slices.Equal(got, c.want) {
			t.Error(c.s, c.t, got, done)
		}
	}
	if got, done := impl.Filled(wide(), substOf([]int64{3}, wideTerm(4)), []int64{7, -1, -2, -2}); !done || !slices.Equal(got, []int64{7, 3, 7, 0, 0, 0, 7, 0, 0, 0}) {
		t.Error("wide", got, done)
	}
}

// The limit is on the result, to which the same variable may contribute more
// than once and each symbol of the term one element.
func TestFilledUpToTheLimit(t *testing.T) {
	for a := 1; a <= 60; a++ {
		for _, b := range []int{1, 29, 30, 31, 58, 60} {
			s := substOf(nested(a), nested(b))
			got, done := impl.Filled(abc(), s, []int64{0, -1, -2})
			if done != (1+a+b <= 60) || done && !slices.Equal(got, append(append([]int64{0}, nested(a)...), nested(b)...)) || !done && len(got) != 0 {
				t.Error(a, b, got, done)
			}
		}
		got, done := impl.Filled(abc(), substOf(nil, nested(a)), []int64{0, -2, 0, -2, -2})
		if done != (2+3*a <= 60) || done && len(got) != 2+3*a || !done && len(got) != 0 {
			t.Error(a, got, done)
		}
		if got, done := impl.Filled(abc(), substOf(nested(a)), []int64{1, -1}); done != (1+a <= 60) || len(got) > 60 {
			t.Error(a, got, done)
		}
	}
	if got, done := impl.Filled(abc(), full(nested(60)), allVars()); done || len(got) != 0 {
		t.Error(got, done)
	}
}

func TestFilledOfInvalidArguments(t *testing.T) {
	for _, x := range badSubsts() {
		for _, nums := range [][]int64{{-1}, {2}, {-24}, big(), {0, -1, -6}} {
			if got, done := impl.Filled(x.sig, x.s, nums); done || len(got) != 0 {
				t.Fatal(x.name, x.sig.Arity, nums, got)
			}
		}
	}
	for _, x := range noTerms() {
		for _, s := range []impl.Subst{{}, substOf([]int64{-2}), substOf(nil, []int64{-1}), full([]int64{-1})} {
			if got, done := impl.Filled(x.sig, s, x.nums); done || len(got) != 0 {
				t.Fatal(x.name, x.sig.Arity, s, got)
			}
		}
	}
}

func TestFilledOfSmallTerms(t *testing.T) {
	terms := smallTrees([]int64{-1, -2, -24}, 4)
	for _, f := range someFillings() {
		s := f.subst(0)
		for _, x := range terms {
			if got, done := impl.Filled(abc(), s, x.notation()); !done || !slices.Equal(got, x.filled(f).notation()) {
				t.Fatal(s, x.notation(), got, done)
			}
		}
	}
}

func TestComposed(t *testing.T) {
	swap := substOf([]int64{-2}, []int64{-1})
	cases := []struct{ s, u, want impl.Subst }{
		{mixed(), substOf([]int64{2}, []int64{1, -1}), substOf([]int64{1, 1, -1}, []int64{1, -1}, []int64{2})},
		{swap, swap, substOf()},
		{substOf(), substOf(), substOf()},
		{substOf(nil, nil), substOf([]int64{-1}), substOf()},
		{mixed(), substOf(), substOf([]int64{1, -2}, nil, []int64{2})},
		{substOf(), mixed(), substOf([]int64{1, -2}, nil, []int64{2})},
		{substOf([]int64{-1}), substOf([]int64{2}), substOf([]int64{2})},
		{only(5, []int64{-7}), only(6, []int64{-6}), only(6, []int64{-6})},
		{only(6, []int64{-6}), only(5, []int64{-7}), only(5, []int64{-7})},
		{only(23, []int64{-1}), substOf([]int64{-24}), substOf([]int64{-24})},
		{substOf([]int64{2}), only(23, []int64{2}), substOf(append([][]int64{{2}}, only(22, []int64{2}).Terms...)...)},
		{substOf([]int64{0, -1, -2}), substOf([]int64{-2}, []int64{-1}), substOf([]int64{0, -2, -1}, []int64{-1})},
		{full(nested(60)), full([]int64{2}), full(nested(60))},
		{full([]int64{-1}), substOf(nested(60)), full(nested(60))},
		{substOf(), full(comb(59)), full(comb(59))},
	}
	for _, c := range cases {
		if got, done := impl.Composed(abc(), c.s, c.u); !done || !equalTerms(got.Terms, c.want.Terms) || !isPlain(got) {
			t.Error(c.s, c.u, got, done)
		}
	}
}

// A replacement of any variable may be too long, also of one whose replacement
// by the second substitution alone is not.
func TestComposedUpToTheLimit(t *testing.T) {
	for _, i := range []int64{0, 1, 7, 22, 23} {
		for a := 1; a <= 60; a++ {
			u := substOf(nested(a), []int64{2})
			got, done := impl.Composed(abc(), only(i, []int64{1, -1}), u)
			if done != (1+a <= 60) || done && !slices.Equal(got.Terms[i], nested(1+a)) || !done && len(got.Terms) != 0 {
				t.Error(i, a, got, done)
			}
			s := only(i, []int64{0, -1, 0, -1, -1})
			if got, done := impl.Composed(abc(), s, u); done != (2+3*a <= 60) || !done && len(got.Terms) != 0 {
				t.Error(i, a, got, done)
			}
		}
	}
	if got, done := impl.Composed(abc(), substOf(comb(59)), only(23, []int64{1, 2})); !done || len(got.Terms[0]) != 60 {
		t.Error(got, done)
	}
	if got, done := impl.Composed(abc(), substOf(comb(59)), only(23, []int64{1, 1, 2})); done || len(got.Terms) != 0 {
		t.Error(got, done)
	}
}

func TestComposedOfInvalidArguments(t *testing.T) {
	for _, x := range badSubsts() {
		for _, s := range []impl.Subst{{}, mixed(), substOf([]int64{-2}, []int64{-1}), full(nested(60)), x.s} {
			one, done := impl.Composed(x.sig, x.s, s)
			two, alsoDone := impl.Composed(x.sig, s, x.s)
			if done || alsoDone || len(one.Terms)+len(two.Terms) != 0 {
				t.Fatal(x.name, x.sig.Arity, s)
			}
		}
	}
}

// P2: what the composition does to a term is what one substitution does after
// the other.
func TestCompositionIsOneAfterTheOther(t *testing.T) {
	list := fillingsOf([]int64{0, 23}, smallTrees([]int64{-1, -24}, 2))
	terms := smallTrees([]int64{-1, -2, -24}, 3)
	for _, f := range list {
		for _, g := range list {
			s, u := f.subst(0), g.subst(2)
			c, done := impl.Composed(abc(), s, u)
			if !done || !equalTerms(c.Terms, f.then(g).plain().Terms) || !isPlain(c) {
				t.Fatal(s, u, c, done)
			}
			for _, x := range terms {
				checkOneAfterTheOther(t, s, u, c, x.notation())
			}
		}
	}
}

func checkOneAfterTheOther(t *testing.T, s, u, c impl.Subst, nums []int64) {
	once, onceDone := impl.Filled(abc(), c, nums)
	half, halfDone := impl.Filled(abc(), s, nums)
	twice, twiceDone := impl.Filled(abc(), u, half)
	if onceDone != (halfDone && twiceDone) || !slices.Equal(once, twice) {
		t.Fatal(s, u, nums, once, half, twice)
	}
}

// longFillings have replacements of which some pairs and triples exceed the
// limit together.
func longFillings() []filling {
	grow := func(i int64, by int) tree {
		x := variable(i)
		for range by {
			x = tree{head: 1, args: []tree{x}}
		}
		return x
	}
	double := tree{head: 0, args: []tree{variable(0), variable(1)}}
	return []filling{
		{}, {0: grow(1, 29), 1: grow(0, 30)}, {0: grow(0, 30), 5: grow(23, 59)}, {0: double, 1: double},
		{0: double, 23: grow(1, 29)}, {1: grow(5, 19), 5: grow(1, 20), 23: double}, {0: tree{head: 2}, 1: variable(0)}, {23: grow(23, 1)},
	}
}

// P2, at the limit: there is a composition exactly if no replacement is too
// long, and terms are filled by it exactly if they are filled step by step.
func TestCompositionOfLongReplacements(t *testing.T) {
	terms := append(someTerms(), allVars(), []int64{0, -1, -2}, []int64{0, -6, -24}, []int64{-6}, []int64{1, -24}, []int64{0, -1, -1})
	for _, f := range longFillings() {
		for _, g := range longFillings() {
			s, u := f.subst(0), g.subst(0)
			c, done := impl.Composed(abc(), s, u)
			if done != (f.then(g).longest() <= 60) || !done && len(c.Terms) != 0 {
				t.Fatal(s, u, c, done)
			}
			if !done {
				continue
			}
			for _, nums := range terms {
				checkOneAfterTheOther(t, s, u, c, nums)
			}
		}
	}
}

// P2: the order in which three substitutions are composed in pairs does not
// matter.
func TestCompositionIsAssociative(t *testing.T) {
	list := fillingsOf([]int64{0, 1}, []tree{variable(0), variable(1), {head: 2}, {head: 1, args: []tree{variable(0)}}})
	for _, f := range list {
		for _, g := range list {
			for _, h := range list {
				s, u, v := f.subst(0), g.subst(0), h.subst(0)
				su, _ := impl.Composed(abc(), s, u)
				uv, _ := impl.Composed(abc(), u, v)
				left, one := impl.Composed(abc(), su, v)
				right, two := impl.Composed(abc(), s, uv)
				if !one || !two || !equalTerms(left.Terms, right.Terms) || !impl.SameSubst(abc(), left, right) {
					t.Fatal(s, u, v, left, right)
				}
			}
		}
	}
}

func TestShifted(t *testing.T) {
	cases := []struct {
		nums []int64
		k    int64
		want []int64
	}{
		{[]int64{0, -1, -3}, 2, []int64{0, -3, -5}},
		{[]int64{0, -1, -3}, 0, []int64{0, -1, -3}},
		{[]int64{0, -1, -3}, 21, []int64{0, -22, -24}},
		{[]int64{0, -1, -3}, 22, nil},
		{[]int64{0, -3, -1}, 22, nil},
		{[]int64{-1}, 23, []int64{-24}},
		{[]int64{-1}, 24, nil},
		{[]int64{-24}, 0, []int64{-24}},
		{[]int64{-24}, 1, nil},
		{[]int64{0, 1, 2, -2}, 1, []int64{0, 1, 2, -3}},
		{nested(60), 0, nested(60)},
		{nested(60), 23, nested(60)},
		{nested(60), 24, nested(60)},
		{nested(60), 25, nil},
		{[]int64{2}, -1, nil},
		{allVars(), 0, allVars()},
		{allVars(), 1, nil},
	}
	for _, c := range cases {
		if got, done := impl.Shifted(abc(), c.nums, c.k); done != (c.want != nil) || !slices.Equal(got, c.want) {
			t.Error(c.nums, c.k, got, done)
		}
	}
	for _, k := range []int64{25, 26, -1, -2, -24, 60, 1 << 32, -1 << 32, math.MaxInt64, math.MaxInt64 - 23, math.MinInt64, math.MinInt64 + 24} {
		for _, nums := range someTerms() {
			if got, done := impl.Shifted(abc(), nums, k); done || len(got) != 0 {
				t.Error(nums, k, got)
			}
		}
	}
	for _, x := range noTerms() {
		for _, k := range []int64{-1, 0, 1, 23, 24, 25} {
			if got, done := impl.Shifted(x.sig, x.nums, k); done || len(got) != 0 {
				t.Error(x.name, x.sig.Arity, k, got)
			}
		}
	}
}

func TestShiftedOfSmallTerms(t *testing.T) {
	for _, x := range smallTrees([]int64{-1, -3, -24}, 4) {
		for k := int64(-2); k <= 27; k++ {
			shift, fits := filling{}, k >= 0 && k <= 24
			for _, i := range x.vars() {
				shift[i] = variable(i + k)
				fits = fits && i+k <= 23
			}
			got, done := impl.Shifted(abc(), x.notation(), k)
			if done != fits || done && !slices.Equal(got, x.filled(shift).notation()) || !done && len(got) != 0 {
				t.Fatal(x.notation(), k, got, done)
			}
		}
	}
}

func TestRenamed(t *testing.T) {
	cases := [][2][]int64{
		{{0, -5, 0, -2, -5}, {0, -1, 0, -2, -1}},
		{{0, -2, -1}, {0, -1, -2}},
		{{0, -1, -2}, {0, -1, -2}},
		{{0, 0, -3, -1, 0, -2, -3}, {0, 0, -1, -2, 0, -3, -1}},
		{{-24}, {-1}},
		{{0, -24, -24}, {0, -1, -1}},
		{{2}, {2}},
		{nested(60), nested(60)},
		{comb(59), append(comb(59)[:58], -1)},
	}
	for _, c := range cases {
		if got := impl.Renamed(abc(), c[0]); !slices.Equal(got, c[1]) {
			t.Error(c[0], got, c[1])
		}
	}
	for _, x := range noTerms() {
		if got := impl.Renamed(x.sig, x.nums); len(got) != 0 {
			t.Error(x.name, x.sig.Arity, got)
		}
	}
}

func TestVariantIn(t *testing.T) {
	cases := []struct {
		a, b []int64
		want bool
	}{
		{[]int64{0, -1, -2}, []int64{0, -9, -1}, true},
		{[]int64{0, -1, -2}, []int64{0, -1, -1}, false},
		{[]int64{0, -1, -1}, []int64{0, -1, -2}, false},
		{[]int64{-1}, []int64{-24}, true},
		{[]int64{-1}, []int64{2}, false},
		{[]int64{1, -1}, []int64{-1}, false},
		{nested(60), nested(60), true},
		{nested(60), nested(59), false},
		{comb(59), append(comb(59)[:58], -1), true},
	}
	for _, c := range cases {
		if impl.VariantIn(abc(), c.a, c.b) != c.want || impl.VariantIn(abc(), c.b, c.a) != c.want {
			t.Error(c.a, c.b, c.want)
		}
	}
	for _, x := range noTerms() {
		if impl.VariantIn(x.sig, x.nums, x.nums) || impl.VariantIn(x.sig, x.nums, []int64{-1}) || impl.VariantIn(x.sig, []int64{-1}, x.nums) {
			t.Error(x.name, x.sig.Arity)
		}
	}
	if impl.VariantIn(abc(), nil, nil) || impl.VariantIn(abc(), []int64{}, nil) {
		t.Error("nil")
	}
}

func TestVariantInOfSmallTerms(t *testing.T) {
	terms := smallTrees([]int64{-1, -2, -24}, 4)
	for _, x := range terms {
		for _, y := range terms {
			if impl.VariantIn(abc(), x.notation(), y.notation()) != x.isVariant(y) {
				t.Fatal(x.notation(), y.notation())
			}
		}
	}
}
