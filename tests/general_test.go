package tests

import (
	"math"
	"slices"
	"testing"

	"loop.example/g00895/impl"
)

// somePatterns is the document's example.
func somePatterns() [][]int64 { return [][]int64{{1, 2}, {1, -1}, {1, -5}, {2}, {0, -1, -1}} }

func TestMatchedAll(t *testing.T) {
	cases := []struct {
		ps   [][]int64
		t    []int64
		want []int64
	}{
		{somePatterns(), []int64{1, 2}, []int64{0, 1, 2}},
		{somePatterns(), []int64{1, -1}, []int64{1, 2}},
		{somePatterns(), []int64{2}, []int64{3}},
		{somePatterns(), []int64{0, 2, 2}, []int64{4}},
		{somePatterns(), []int64{0, 2, -1}, nil},
		{somePatterns(), []int64{-1}, nil},
		// No patterns.
		{nil, []int64{2}, nil},
		{[][]int64{}, []int64{2}, nil},
		// The same pattern twice, variants, and a variable.
		{[][]int64{{2}, {2}}, []int64{2}, []int64{0, 1}},
		{[][]int64{{2}, {1, -1}, {2}}, []int64{2}, []int64{0, 2}},
		{[][]int64{{0, -1, -2}, {0, -2, -1}, {0, -9, -9}}, []int64{0, 2, -1}, []int64{0, 1}},
		{[][]int64{{-1}, {-24}, {2}}, []int64{-1}, []int64{0, 1}},
		// What one pattern binds does not count for the next one.
		{[][]int64{{0, -1, 2}, {0, 2, -1}}, []int64{0, 2, 2}, []int64{0, 1}},
		{[][]int64{{0, -1, 2}, {1, -1}, {0, 2, -1}, {0, -1, -1}}, []int64{0, 2, 1, 2}, []int64{2}},
		// The patterns and the term share variables.
		{[][]int64{{0, -1, -1}, {0, -1, -2}, {0, -2, -2}, {0, -2, -1}}, []int64{0, -1, -2}, []int64{1, 3}},
		// Terms of MaxTerm numbers.
		{[][]int64{nested(60), nested(59), {1, -1}, comb(59), append(nested(60)[:59], -1)}, nested(60), []int64{0, 2, 4}},
		{[][]int64{comb(59), combOn(-1), combOn(1, -1), combOn(1, 2)}, combOn(1, 2), []int64{0, 1, 2, 3}},
	}
	for _, c := range cases {
		if got := impl.MatchedAll(abc(), c.ps, c.t); !slices.Equal(got, c.want) {
			t.Error(c.ps, c.t, got, c.want)
		}
	}
	if got := impl.MatchedAll(wide(), [][]int64{{7, -1, -1, -2}, {4, -1, -2, -3}, {7, 0, 0, -1}, {7, -1, 0, -1}}, wideTerm(58)); !slices.Equal(got, []int64{0, 2}) {
		t.Error("wide", got)
	}
}

func TestMostGeneral(t *testing.T) {
	cases := []struct {
		ps   [][]int64
		want []int64
	}{
		{somePatterns(), []int64{1, 3, 4}},
		// No patterns and one.
		{nil, nil},
		{[][]int64{}, nil},
		{[][]int64{{2}}, []int64{0}},
		{[][]int64{big()}, []int64{0}},
		// The same pattern twice and variants.
		{[][]int64{{2}, {2}}, []int64{0}},
		{[][]int64{big(), {2}, big(), {2}}, []int64{0, 1}},
		{[][]int64{{1, -1}, {1, -2}, {1, -24}}, []int64{0}},
		{[][]int64{{1, -24}, {1, 2}, {1, -1}}, []int64{0}},
		{[][]int64{{0, -1, -2}, {0, -2, -1}, {0, -9, -1}}, []int64{0}},
		{[][]int64{{0, -1, -1}, {0, -2, -2}, {0, -1, -2}}, []int64{2}},
		// An earlier variant counts, even though it is no result itself.
		{[][]int64{{1, 2}, {1, 2}, {1, -1}}, []int64{2}},
		// A variable is above all that are no variables.
		{[][]int64{{1, 2}, {-1}, {2}, {0, -1, -2}}, []int64{1}},
		{[][]int64{{-5}, {-1}, {-24}}, []int64{0}},
		{[][]int64{big(), nested(60), comb(59), {-24}}, []int64{3}},
		// The more general one behind, in front and between.
		{[][]int64{{0, 2, 2}, {0, 2, -1}, {0, -1, -2}}, []int64{2}},
		{[][]int64{{0, -1, -2}, {0, 2, -1}, {0, 2, 2}}, []int64{0}},
		{[][]int64{{0, 2, -1}, {0, 2, 2}, {0, -1, 2}}, []int64{0, 2}},
		{[][]int64{{0, -1, -1}, {0, 2, -1}, {0, 2, 2}, {0, 1, 2, 1, 2}}, []int64{0, 1}},
		// Not every term that meets another one is above it.
		{[][]int64{{0, 1, -1, -2}, {0, -1, 1, -2}}, []int64{0, 1}},
		{[][]int64{{1, -1}, {2}, {0, -1, -2}}, []int64{0, 1, 2}},
		// The patterns share variables.
		{[][]int64{{1, -1}, {1, 1, -1}, {1, 1, 1, -1}}, []int64{0}},
		{[][]int64{{0, -1, 1, -1}, {0, -1, 1, -2}}, []int64{1}},
		// Terms of MaxTerm numbers.
		{[][]int64{nested(60), append(nested(60)[:59], -1), append(nested(60)[:59], -2), nested(59)}, []int64{1, 3}},
		{[][]int64{combOn(1, 2), combOn(1, -1), comb(59)}, []int64{2}},
	}
	for _, c := range cases {
		if got := impl.MostGeneral(abc(), c.ps); !slices.Equal(got, c.want) {
			t.Error(c.ps, got, c.want)
		}
	}
	if got := impl.MostGeneral(wide(), [][]int64{{7, -1, -2, -1}, wideTerm(58), {7, -1, -1, -1}, {4, 0, 2, 3}, {7, -3, -1, -3}}); !slices.Equal(got, []int64{0, 1, 3}) {
		t.Error("wide", got)
	}
}

// Both functions accept MaxRules patterns and no more.
func TestPatternsUpToTheLimit(t *testing.T) {
	if impl.MaxRules != 12 {
		t.Fatal(impl.MaxRules)
	}
	for size := range 30 {
		same := slices.Repeat([][]int64{{-1}}, size)
		deep := make([][]int64, size)
		for i := range deep {
			deep[i] = nested(60 - i)
		}
		all, top, first := impl.MatchedAll(abc(), same, []int64{2}), impl.MostGeneral(abc(), same), impl.MostGeneral(abc(), deep)
		if size > 12 {
			if len(all)+len(top)+len(first) != 0 || len(impl.MatchedAll(abc(), deep, nested(60))) != 0 {
				t.Error(size, all, top, first)
			}
			continue
		}
		if !slices.Equal(all, everyPlace(int64(size))) || !slices.Equal(top, everyPlace(min(1, int64(size)))) || !slices.Equal(first, everyPlace(int64(size))) {
			t.Error(size, all, top, first)
		}
		if got := impl.MatchedAll(abc(), deep, nested(60)); !slices.Equal(got, everyPlace(min(1, int64(size)))) {
			t.Error(size, got)
		}
	}
	for _, size := range []int{13, 14, 60, 5000} {
		if len(impl.MatchedAll(abc(), make([][]int64, size), []int64{2})) != 0 || len(impl.MostGeneral(abc(), make([][]int64, size))) != 0 {
			t.Error(size, "empty patterns")
		}
	}
}

// One pattern that is not valid is enough, wherever it stands.
func TestPatternsOfInvalidArguments(t *testing.T) {
	check := func(name string, sig impl.Sig, ps [][]int64, x []int64) {
		if got := impl.MatchedAll(sig, ps, x); len(got) != 0 {
			t.Fatal("MatchedAll", name, sig.Arity, ps, x, got)
		}
	}
	checkAll := func(name string, sig impl.Sig, ps [][]int64) {
		for _, x := range [][]int64{{2}, {-1}, big(), nil} {
			check(name, sig, ps, x)
		}
		if got := impl.MostGeneral(sig, ps); len(got) != 0 {
			t.Fatal("MostGeneral", name, sig.Arity, ps, got)
		}
	}
	for _, x := range noTerms() {
		checkAll(x.name, x.sig, [][]int64{x.nums})
		checkAll(x.name, x.sig, [][]int64{x.nums, x.nums})
		for _, size := range []int{1, 2, 11} {
			for at := range size + 1 {
				checkAll(x.name, x.sig, slices.Insert(slices.Repeat([][]int64{{-1}}, size), at, x.nums))
			}
		}
		check(x.name, x.sig, [][]int64{{-1}, {2}}, x.nums)
		check(x.name, x.sig, [][]int64{{-1}, x.nums}, x.nums)
		check(x.name, x.sig, slices.Repeat([][]int64{{-1}}, 12), x.nums)
		check(x.name, x.sig, nil, x.nums)
	}
	for _, sig := range badSigs() {
		checkAll("no signature, no patterns", sig, nil)
		checkAll("no signature", sig, somePatterns())
	}
	checkAll("numbers", abc(), [][]int64{{-1}, {math.MinInt64}, {math.MaxInt64}})
}

// Every list of up to three patterns, and longer ones up to the limit.
func TestListsOfPatterns(t *testing.T) {
	h := someHerd()
	for _, list := range append(lists(len(h.trees), 3), longLists(len(h.trees))...) {
		ps := h.notations(list)
		if got := impl.MostGeneral(abc(), ps); !slices.Equal(got, h.tops(list)) {
			t.Fatal(ps, got, h.tops(list))
		}
		for x := range h.trees {
			if got := impl.MatchedAll(abc(), ps, h.trees[x].notation()); !slices.Equal(got, h.around(list, x)) {
				t.Fatal(ps, h.trees[x].notation(), got, h.around(list, x))
			}
		}
	}
}

// With nothing but the program's own functions: each pattern is an instance of
// one of the most general ones, and of these none is an instance of another.
func TestMostGeneralOnesSuffice(t *testing.T) {
	h := someHerd()
	for _, list := range append(lists(len(h.trees), 2), longLists(len(h.trees))...) {
		ps := h.notations(list)
		var tops [][]int64
		for _, i := range impl.MostGeneral(abc(), ps) {
			tops = append(tops, ps[i])
		}
		for _, p := range ps {
			if len(impl.MatchedAll(abc(), tops, p)) == 0 {
				t.Fatal(ps, tops, p)
			}
		}
		for i, p := range tops {
			if got := impl.MatchedAll(abc(), tops, p); !slices.Equal(got, []int64{int64(i)}) {
				t.Fatal(ps, tops, p, got)
			}
		}
	}
}

// P4 for each pattern of a list that is reported, and for no other one.
func TestReportedPatternsAreMatched(t *testing.T) {
	ps := append(someTerms(), []int64{1, -1}, []int64{0, -1, -2}, []int64{0, 2, -1})
	if len(ps) != impl.MaxRules {
		t.Fatal(len(ps))
	}
	for _, x := range append(someTerms(), twice(nested(29)), nested(59), combOn(1, 2), []int64{1, -24}) {
		var want []int64
		for i, p := range ps {
			if checkMatched(t, abc(), p, x) {
				want = append(want, int64(i))
			}
		}
		if got := impl.MatchedAll(abc(), ps, x); !slices.Equal(got, want) {
			t.Fatal(x, got, want)
		}
	}
}

func TestMoreGeneral(t *testing.T) {
	above := [][2][]int64{
		{{1, -1}, {1, 2}},
		{{1, -1}, {1, 1, -1}},
		{{-1}, {2}},
		{{-1}, big()},
		{{-24}, nested(60)},
		{{0, -1, -2}, {0, -1, -1}},
		{{0, -1, -2}, {0, -2, 2}},
		{{0, -1, -1}, {0, 2, 2}},
		{{1, -1}, nested(60)},
		{append(nested(60)[:59], -1), nested(60)},
		{comb(59), combOn(1, 2)},
		{allVars(), append(allVars()[:46], -2)},
	}
	for _, c := range above {
		if !impl.MoreGeneral(abc(), c[0], c[1]) || impl.MoreGeneral(abc(), c[1], c[0]) {
			t.Error(c[0], "is more general than", c[1])
		}
	}
	neither := [][2][]int64{
		// The same and variants.
		{{2}, {2}},
		{{-1}, {-1}},
		{{-1}, {-24}},
		{{1, -1}, {1, -2}},
		{{0, -1, -2}, {0, -2, -1}},
		{big(), big()},
		{nested(60), nested(60)},
		{comb(59), combOn(-1)},
		{allVars(), impl.Renamed(abc(), allVars())},
		// Neither is an instance of the other.
		{{2}, {1, 2}},
		{{1, -1}, {0, -1, -1}},
		{{0, 2, -1}, {0, -1, 2}},
		{{0, -1, -1}, {0, 2, -1}},
		{{0, -1, -1}, {0, -1, 2}},
		{nested(60), nested(59)},
		{nested(60), comb(59)},
	}
	for _, c := range neither {
		if impl.MoreGeneral(abc(), c[0], c[1]) || impl.MoreGeneral(abc(), c[1], c[0]) {
			t.Error(c[0], "is not more general than", c[1])
		}
	}
	if !impl.MoreGeneral(wide(), []int64{7, -1, -1, -2}, wideTerm(58)) || impl.MoreGeneral(wide(), wideTerm(58), []int64{7, -1, -1, -2}) {
		t.Error("wide")
	}
}

func TestMoreGeneralOfSmallTerms(t *testing.T) {
	list := smallTrees([]int64{-1, -2, -24}, 4)
	for _, p := range list {
		for _, x := range list {
			a, b := p.notation(), x.notation()
			got := impl.MoreGeneral(abc(), a, b)
			if got != p.isAbove(x) || got && impl.MoreGeneral(abc(), b, a) {
				t.Fatal(a, b, got)
			}
			// Two terms that are instances of each other are variants.
			if (impl.InstanceIn(abc(), a, b) && !got) != impl.VariantIn(abc(), a, b) {
				t.Fatal(a, b, got)
			}
		}
	}
}

func TestInstancesOfInstances(t *testing.T) {
	h := someHerd()
	for _, p := range h.trees {
		for _, q := range h.trees {
			for _, x := range h.trees {
				a, b, c := p.notation(), q.notation(), x.notation()
				if impl.InstanceIn(abc(), a, b) && impl.InstanceIn(abc(), b, c) && !impl.InstanceIn(abc(), a, c) {
					t.Fatal("instances", a, b, c)
				}
				if impl.MoreGeneral(abc(), a, b) && impl.MoreGeneral(abc(), b, c) && !impl.MoreGeneral(abc(), a, c) {
					t.Fatal("more general", a, b, c)
				}
			}
		}
	}
}
