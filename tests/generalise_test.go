package tests

import (
	"math"
	"slices"
	"testing"

	"loop.example/g00895/impl"
)

func TestGeneralised(t *testing.T) {
	cases := []struct {
		sig        impl.Sig
		a, b, want []int64
	}{
		{abc(), []int64{0, 1, -5, 2}, []int64{0, 1, 2, -5}, []int64{0, 1, -1, -2}},
		{abc(), []int64{0, 1, 2, 1, 2}, []int64{0, 2, 2}, []int64{0, -1, -1}},
		// The same terms.
		{abc(), []int64{1, 2}, []int64{1, 2}, []int64{1, 2}},
		{abc(), []int64{-7}, []int64{-7}, []int64{-1}},
		{abc(), big(), big(), []int64{0, 1, 0, -1, 2, -2}},
		{abc(), []int64{0, -5, 0, -2, -5}, []int64{0, -5, 0, -2, -5}, []int64{0, -1, 0, -2, -1}},
		// Nothing in common.
		{abc(), []int64{2}, []int64{1, 2}, []int64{-1}},
		{abc(), []int64{2}, []int64{-24}, []int64{-1}},
		{abc(), []int64{-1}, []int64{-2}, []int64{-1}},
		{abc(), nested(60), comb(59), []int64{-1}},
		// Two subterms stand for the same variable only in the same pair.
		{abc(), []int64{0, 2, 2}, []int64{0, 1, 2, 1, 2}, []int64{0, -1, -1}},
		{abc(), []int64{0, 2, 2}, []int64{0, 1, 2, 1, 1, 2}, []int64{0, -1, -2}},
		{abc(), []int64{0, 2, 1, 2}, []int64{0, 1, 2, 2}, []int64{0, -1, -2}},
		{abc(), []int64{0, 2, 0, 1, 2, 2}, []int64{0, 1, 2, 0, 2, 1, 2}, []int64{0, -1, 0, -2, -1}},
		// The order of the two subterms counts.
		{abc(), []int64{0, 1, 1, 2, 2}, []int64{0, 2, 1, 2}, []int64{0, -1, -2}},
		{abc(), []int64{0, 0, 2, 2, 1, 2}, []int64{0, 1, 2, 0, 2, 2}, []int64{0, -1, -2}},
		// The terms share variables, which are like any other terms.
		{abc(), []int64{0, -1, -2}, []int64{0, -1, -1}, []int64{0, -1, -2}},
		{abc(), []int64{0, -1, -1}, []int64{0, -2, -2}, []int64{0, -1, -1}},
		{abc(), []int64{0, -1, -2}, []int64{0, -2, -1}, []int64{0, -1, -2}},
		{abc(), []int64{0, -1, 0, -2, -1}, []int64{0, -1, 0, -1, -1}, []int64{0, -1, 0, -2, -1}},
		{abc(), []int64{0, -3, 1, -3}, []int64{0, -3, 1, -3}, []int64{0, -1, 1, -1}},
		{abc(), []int64{1, -1}, []int64{1, 1, -1}, []int64{1, -1}},
		{abc(), []int64{0, -1, 2}, []int64{0, 2, -1}, []int64{0, -1, -2}},
		// Up to MaxTerm numbers.
		{abc(), nested(60), nested(60), nested(60)},
		{abc(), nested(60), nested(59), append(nested(60)[:58], -1)},
		{abc(), nested(59), nested(60), append(nested(60)[:58], -1)},
		{abc(), nested(60), append(nested(60)[:59], -5), append(nested(60)[:59], -1)},
		{abc(), comb(59), combOn(1, 2), combOn(-1)},
		{abc(), twice(nested(29)), twice(nested(28)), twice(append(nested(29)[:27], -1))},
		{abc(), allVars(), allVars(), impl.Renamed(abc(), allVars())},
		{wide(), []int64{7, 0, 2, 0}, []int64{7, 6, 3, 2, 6, 3}, []int64{7, -1, 2, -1}},
		{wide(), wideTerm(58), wideTerm(55), append(slices.Repeat([]int64{7, 0, 0}, 18), -1)},
		{wide(), []int64{0}, []int64{2}, []int64{-1}},
		{wide(), []int64{7, 0, 0, 0}, []int64{4, 0, 0, 0}, []int64{-1}},
	}
	for _, c := range cases {
		for _, pair := range [][2][]int64{{c.a, c.b}, {c.b, c.a}} {
			if got := impl.Generalised(c.sig, pair[0], pair[1]); !slices.Equal(got, c.want) {
				t.Error(pair, got, c.want)
			}
			checkGeneralised(t, c.sig, pair[0], pair[1])
		}
	}
}

// checkGeneralised checks what is said of Generalised, other than that the term
// is least general, with nothing but the program's own functions.
func checkGeneralised(t *testing.T, sig impl.Sig, a, b []int64) {
	t.Helper()
	got := impl.Generalised(sig, a, b)
	if !impl.InstanceIn(sig, got, a) || !impl.InstanceIn(sig, got, b) || !slices.Equal(got, impl.Renamed(sig, got)) {
		t.Fatal(a, b, got)
	}
}

// smallPatterns returns one of the variants of every tree of at most so many
// elements and three variables.
func smallPatterns(most int64) []tree {
	isOther := func(x tree) bool { return !x.isSame(x.renamed()) }
	return slices.DeleteFunc(smallTrees([]int64{-1, -2, -3}, most), isOther)
}

// An overview tells which of the patterns each of the terms is an instance of,
// and what holds between the patterns.
type overview struct {
	patterns, terms    []tree
	isAround, isBetter [][]bool
}

func overviewOf(patterns, terms []tree) overview {
	return overview{patterns, terms, tableOf(patterns, terms, tree.isAround), tableOf(patterns, patterns, tree.isAround)}
}

// least returns the one pattern around the given terms that is an instance of
// all patterns around them: what least general means, word for word.
func (o overview) least(list ...int) tree {
	var around, found []int
	for p := range o.patterns {
		isOut := func(term int) bool { return !o.isAround[p][term] }
		if !slices.ContainsFunc(list, isOut) {
			around = append(around, p)
		}
	}
	for _, p := range around {
		isMissed := func(other int) bool { return !o.isBetter[other][p] }
		if !slices.ContainsFunc(around, isMissed) {
			found = append(found, p)
		}
	}
	if len(found) != 1 {
		panic("not one least general pattern")
	}
	return o.patterns[found[0]]
}

// P5: of all patterns around both terms, the result is the least general one.
func TestGeneralisationIsLeastGeneral(t *testing.T) {
	for _, terms := range [][]tree{smallTrees([]int64{-1, -2, -24}, 4), smallTrees([]int64{-24}, 5)} {
		o := overviewOf(smallPatterns(5), terms)
		for i, x := range terms {
			for j, y := range terms {
				if got := impl.Generalised(abc(), x.notation(), y.notation()); !slices.Equal(got, o.least(i, j).notation()) {
					t.Fatal(x.notation(), y.notation(), got, o.least(i, j).notation())
				}
			}
		}
	}
}

// P5 with nothing but the program's own functions: every term around both is
// around the result.
func TestPatternsAroundBothTermsAreAroundTheGeneralisation(t *testing.T) {
	var patterns, terms [][]int64
	for _, p := range smallPatterns(5) {
		patterns = append(patterns, p.notation())
	}
	for _, x := range smallTrees([]int64{-1, -24}, 4) {
		terms = append(terms, x.notation())
	}
	terms = append(terms, someTerms()...)
	for _, a := range terms {
		for _, b := range terms {
			checkGeneralised(t, abc(), a, b)
			got := impl.Generalised(abc(), a, b)
			for _, p := range patterns {
				if impl.InstanceIn(abc(), p, a) && impl.InstanceIn(abc(), p, b) && !impl.InstanceIn(abc(), p, got) {
					t.Fatal(a, b, got, p)
				}
			}
		}
	}
}

func TestGeneralisedOfLongTerms(t *testing.T) {
	m, many, deep := makerOf(4), 0, 0
	for k := range 4000 {
		b, _ := m.blur(k%2 == 0)
		want := b.x.generalised(b.y, map[string]tree{})
		got := impl.Generalised(b.sig, b.x.notation(), b.y.notation())
		if want.behind() > impl.MaxVars {
			if len(got) != 0 {
				t.Fatal(b.x.notation(), b.y.notation(), got)
			}
			continue
		}
		if !slices.Equal(got, want.notation()) {
			t.Fatal(b.x.notation(), b.y.notation(), got, want.notation())
		}
		checkGeneralised(t, b.sig, b.x.notation(), b.y.notation())
		if len(want.vars()) > len(want.varSet()) {
			many++
		}
		if want.depth() > 5 {
			deep++
		}
	}
	if many < 300 || deep < 300 {
		t.Fatal("too few of the pairs test much", many, deep)
	}
}

// sides returns two lists of so many variables, in which so many different
// pairs take turns, and the list of the variables that stand for the pairs.
func sides(size, pairs int) (left, right, both []tree) {
	turn := func(i int64) int64 { return i % int64(pairs) }
	left = several(size, func(i int64) tree { return variable(turn(i) % impl.MaxVars) })
	right = several(size, func(i int64) tree { return variable(turn(i) / impl.MaxVars) })
	return left, right, several(size, func(i int64) tree { return variable(turn(i)) })
}

// The result has at most MaxVars variables, however often they occur and
// whichever terms they stand for.
func TestGeneralisedUpToTheLimit(t *testing.T) {
	check := func(sig impl.Sig, pairs int, x, y, want tree) {
		t.Helper()
		a, b := x.notation(), y.notation()
		got, all := impl.Generalised(sig, a, b), impl.GeneralisedAll(sig, [][]int64{a, b})
		if pairs > 24 && len(got)+len(all) == 0 {
			return
		}
		if pairs > 24 || !slices.Equal(got, want.notation()) || !slices.Equal(all, want.notation()) {
			t.Fatal(pairs, a, b, got, all)
		}
		checkGeneralised(t, sig, a, b)
	}
	for size := 1; size <= 39; size++ {
		for pairs := 1; pairs <= size; pairs++ {
			left, right, both := sides(size, pairs)
			if size <= 30 {
				check(abc(), pairs, row(left...), row(right...), row(both...))
			}
			if size%2 == 1 {
				check(impl.Sig{Arity: []int64{0, 3}}, pairs, stair(left...), stair(right...), stair(both...))
			}
		}
	}
}

func TestGeneralisedWithOneVariableMore(t *testing.T) {
	ground := rowOf(24, func(int64) tree { return tree{head: 2} }).notation()
	if got := impl.Generalised(abc(), allVars(), ground); !slices.Equal(got, impl.Renamed(abc(), allVars())) {
		t.Error(got)
	}
	first := [2][]int64{slices.Concat([]int64{0, 2}, allVars()), slices.Concat([]int64{0, 1, 2}, ground)}
	last := [2][]int64{slices.Concat([]int64{0}, allVars(), []int64{2}), slices.Concat([]int64{0}, ground, []int64{1, 2})}
	for _, more := range [][2][]int64{first, last} {
		if got := impl.Generalised(abc(), more[0], more[1]); len(got) != 0 || !impl.TermOk(abc(), more[0]) || !impl.TermOk(abc(), more[1]) {
			t.Error(more, got)
		}
	}
}

func TestGeneralisedAll(t *testing.T) {
	cases := []struct {
		ts   [][]int64
		want []int64
	}{
		{[][]int64{{0, 2, 1, 2}, {0, 2, 1, 1, 2}, {0, 1, 2, 1, 2}}, []int64{0, -1, 1, -2}},
		// No terms and one.
		{nil, nil},
		{[][]int64{}, nil},
		{[][]int64{{1, -9}}, []int64{1, -1}},
		{[][]int64{{2}}, []int64{2}},
		{[][]int64{{0, -24, 0, -2, -24}}, []int64{0, -1, 0, -2, -1}},
		{[][]int64{nested(60)}, nested(60)},
		{[][]int64{allVars()}, impl.Renamed(abc(), allVars())},
		// Equal terms.
		{[][]int64{{2}, {2}}, []int64{2}},
		{slices.Repeat([][]int64{{0, -3, 1, -3}}, 12), []int64{0, -1, 1, -1}},
		{slices.Repeat([][]int64{nested(60)}, 12), nested(60)},
		{slices.Repeat([][]int64{allVars()}, 12), impl.Renamed(abc(), allVars())},
		// The terms share variables, also with what the earlier ones make.
		{[][]int64{{0, -1, -2}, {0, -1, -1}, {0, -2, -2}}, []int64{0, -1, -2}},
		{[][]int64{{0, 2, 2}, {0, 1, 2, 1, 2}, {0, -1, -1}}, []int64{0, -1, -1}},
		{[][]int64{{0, 2, 2}, {0, 1, 2, 1, 2}, {0, -1, -2}}, []int64{0, -1, -2}},
		{[][]int64{{0, 2, 1, 2}, {0, 1, 2, 2}, {0, -1, -2}}, []int64{0, -1, -2}},
		{[][]int64{{0, 2, 1, 2}, {0, 1, 2, 2}, {0, -1, -1}}, []int64{0, -1, -2}},
		{[][]int64{{1, -1}, {1, -2}, {1, -24}}, []int64{1, -1}},
		// A later term makes the result more general, or a variable.
		{[][]int64{nested(60), nested(59), nested(58)}, append(nested(60)[:57], -1)},
		{[][]int64{nested(60), nested(60), {1, 2}, nested(60)}, []int64{1, -1}},
		{[][]int64{nested(60), nested(60), {2}, nested(60)}, []int64{-1}},
		{[][]int64{{2}, {-1}, big()}, []int64{-1}},
	}
	for _, c := range cases {
		if got := impl.GeneralisedAll(abc(), c.ts); !slices.Equal(got, c.want) {
			t.Error(c.ts, got, c.want)
		}
	}
	if got := impl.GeneralisedAll(wide(), [][]int64{wideTerm(58), {7, 2, 2, -1}, {7, 6, 3, 6, 3, 3}}); !slices.Equal(got, []int64{7, -1, -1, -2}) {
		t.Error("wide", got)
	}
}

// P5 for every list of up to three terms, and longer ones up to the limit.
func TestGeneralisationOfListsIsLeastGeneral(t *testing.T) {
	h := someHerd()
	o := overviewOf(smallPatterns(5), h.trees)
	for _, list := range append(lists(len(h.trees), 3)[1:], longLists(len(h.trees))...) {
		if got := impl.GeneralisedAll(abc(), h.notations(list)); !slices.Equal(got, o.least(list...).notation()) {
			t.Fatal(h.notations(list), got, o.least(list...).notation())
		}
	}
}

// It is computed from the first to the last element, so one pair of terms with
// too many variables between them is enough, even if all terms have little in
// common; but not if another term comes between them.
func TestGeneralisedAllFromTheFirstToTheLast(t *testing.T) {
	left, right, _ := sides(25, 25)
	a, b := row(left...).notation(), row(right...).notation()
	short := [][]int64{{2}, {1, -1}, {-24}}
	for _, c := range short {
		for _, ts := range [][][]int64{{a, b, c}, {b, a, c}, {a, a, b, c}, {a, b, a, c, c}} {
			if got := impl.GeneralisedAll(abc(), ts); len(got) != 0 {
				t.Error(ts, got)
			}
		}
		for _, ts := range [][][]int64{{a, c, b}, {c, a, b}, {c, c, b, a}} {
			if got := impl.GeneralisedAll(abc(), ts); !slices.Equal(got, []int64{-1}) {
				t.Error(ts, got)
			}
		}
	}
	m := makerOf(6)
	for range 500 {
		one, _ := m.blur(false)
		two, _ := m.blur(true)
		ts := [][]int64{one.x.notation(), one.y.notation()}
		if slices.Equal(one.sig.Arity, two.sig.Arity) {
			ts = append(ts, two.x.notation(), two.y.notation())
		}
		want := impl.Renamed(one.sig, ts[0])
		for _, x := range ts[1:] {
			want = impl.Generalised(one.sig, want, x)
		}
		if got := impl.GeneralisedAll(one.sig, ts); !slices.Equal(got, want) {
			t.Fatal(ts, got, want)
		}
	}
}

// Exactly MaxRules terms are accepted and no more.
func TestGeneralisedAllUpToTheLimit(t *testing.T) {
	for size := range 30 {
		ts := make([][]int64, size)
		for i := range ts {
			ts[i] = nested(60 - i)
		}
		got, same := impl.GeneralisedAll(abc(), ts), impl.GeneralisedAll(abc(), slices.Repeat([][]int64{{2}}, size))
		if size == 0 || size > 12 {
			if len(got)+len(same) != 0 {
				t.Error(size, got, same)
			}
			continue
		}
		want := nested(60)
		if size > 1 {
			want = append(nested(60)[:60-size], -1)
		}
		if !slices.Equal(got, want) || !slices.Equal(same, []int64{2}) {
			t.Error(size, got, same)
		}
	}
	for _, size := range []int{1, 12, 13, 5000} {
		if got := impl.GeneralisedAll(abc(), make([][]int64, size)); len(got) != 0 {
			t.Error(size, "empty terms", got)
		}
	}
}

// One term that is not valid is enough, wherever it stands.
func TestGeneralisedAllOfInvalidArguments(t *testing.T) {
	check := func(name string, sig impl.Sig, ts [][]int64) {
		if got := impl.GeneralisedAll(sig, ts); len(got) != 0 {
			t.Fatal(name, sig.Arity, ts, got)
		}
	}
	for _, x := range noTerms() {
		check(x.name, x.sig, [][]int64{x.nums})
		check(x.name, x.sig, [][]int64{x.nums, x.nums})
		for _, size := range []int{1, 2, 11} {
			for at := range size + 1 {
				check(x.name, x.sig, slices.Insert(slices.Repeat([][]int64{{-1}}, size), at, x.nums))
			}
		}
		check(x.name, x.sig, slices.Insert(slices.Repeat([][]int64{{2}, {-1}}, 4), 3, x.nums))
	}
	for _, sig := range badSigs() {
		check("no signature, no terms", sig, nil)
		check("no signature", sig, somePatterns())
	}
	check("numbers", abc(), [][]int64{{-1}, {math.MinInt64}, {math.MaxInt64}})
}
