package tests

import (
	"math"
	"slices"
	"testing"

	"loop.example/g00895/impl"
)

func TestWeightsOk(t *testing.T) {
	if impl.MaxWeight != 20 {
		t.Fatal(impl.MaxWeight)
	}
	flat, one := impl.Sig{Arity: []int64{1, 1, 0}}, impl.Sig{Arity: []int64{0}}
	good := []weightCase{
		{"the document's example", abc(), light()},
		{"everything weighs as much", abc(), even()},
		{"the highest unary symbol weighs nothing", abc(), hollow()},
		{"one of two unary symbols weighs nothing", flat, weightsOf(1, []int64{0, 1, 1}, 2, 1, 0)},
		{"the other one of two unary symbols weighs nothing", flat, weightsOf(1, []int64{1, 0, 1}, 0, 2, 1)},
		{"a symbol of two arguments weighs nothing, the lowest one", abc(), weightsOf(1, []int64{0, 1, 1}, 0, 1, 2)},
		{"a symbol of two and one of one argument weigh nothing", abc(), weightsOf(1, []int64{0, 0, 1}, 0, 2, 1)},
		{"symbols of two and of three arguments weigh nothing", impl.Sig{Arity: []int64{2, 3, 3}}, weightsOf(1, []int64{0, 0, 0}, 2, 1, 0)},
		{"the most for a variable", abc(), weightsOf(20, []int64{0, 1, 20}, 2, 1, 0)},
		{"the most for all", abc(), weightsOf(20, []int64{20, 20, 20}, 2, 1, 0)},
		{"constants that are heavier than a variable", abc(), weightsOf(3, []int64{0, 1, 20}, 2, 1, 0)},
		{"a constant alone", one, weightsOf(1, []int64{1}, 0)},
		{"a constant of the most weight", one, weightsOf(20, []int64{20}, 0)},
		{"a unary symbol alone that weighs nothing", impl.Sig{Arity: []int64{1}}, weightsOf(20, []int64{0}, 0)},
		{"no constant", impl.Sig{Arity: []int64{3, 1}}, weightsOf(20, []int64{1, 1}, 0, 1)},
		{"eight symbols", wide(), weightsOf(2, []int64{2, 0, 3, 20, 0, 2, 0, 1}, 3, 6, 0, 4, 1, 5, 7, 2)},
	}
	for _, x := range good {
		if !impl.WeightsOk(x.sig, x.w) || !isFair(x.sig, x.w) {
			t.Error(x.name)
		}
	}
	for _, x := range badWeights() {
		if impl.WeightsOk(x.sig, x.w) {
			t.Error(x.name, x.sig, x.w)
		}
	}
	if impl.WeightsOk(abc(), weightsOf(2, light().Sym, light().Rank...)) {
		t.Error("the document's example with a heavier variable")
	}
}

// Every number at every place, near the limits and far beyond them.
func TestWeightsOkOfOneNumber(t *testing.T) {
	numbers := []int64{1 << 32, 1<<32 + 1, math.MaxInt64, math.MinInt64, math.MinInt64 + 1}
	for n := range int64(50) {
		numbers = append(numbers, n-25)
	}
	for _, n := range numbers {
		isIn := n >= 0 && n <= 20
		for _, x := range []struct {
			w    impl.Weights
			want bool
		}{
			{weightsOf(n, []int64{1, 1, 20}, 2, 1, 0), isIn && n > 0},
			{weightsOf(n, []int64{1, 1, 7}, 2, 1, 0), n > 0 && n <= 7},
			{weightsOf(1, []int64{n, 1, 1}, 0, 1, 2), isIn},
			{weightsOf(1, []int64{n, 1, 1}, 2, 1, 0), isIn},
			{weightsOf(1, []int64{1, n, 1}, 0, 1, 2), isIn && n > 0},
			{weightsOf(1, []int64{1, n, 1}, 1, 0, 2), isIn && n > 0},
			{weightsOf(1, []int64{1, n, 1}, 1, 2, 0), isIn},
			{weightsOf(7, []int64{1, 1, n}, 0, 1, 2), isIn && n >= 7},
			{weightsOf(20, []int64{1, 1, n}, 2, 1, 0), n == 20},
			{weightsOf(1, []int64{1, 1, 1}, 0, n, 2), n == 1},
		} {
			if impl.WeightsOk(abc(), x.w) != x.want {
				t.Error(x.w, x.want)
			}
		}
	}
}

// All signatures of up to two symbols with all weights at the limits, and with lists
// that are too short or too long.
func TestWeightsOkOfShortLists(t *testing.T) {
	good, bad := 0, 0
	lists := slicesOf([]int64{-1, 0, 1, 2, 20, 21}, 3)
	ranks := slicesOf([]int64{0, 1, 2}, 3)
	for _, arity := range slicesOf(everyPlace(4), 2)[1:] {
		sig := impl.Sig{Arity: arity}
		for _, sym := range lists {
			for _, rank := range ranks {
				for _, ofVar := range []int64{-1, 0, 1, 2, 20, 21} {
					w := weightsOf(ofVar, sym, rank...)
					if impl.WeightsOk(sig, w) != isFair(sig, w) {
						t.Fatal(sig, w)
					}
					if isFair(sig, w) {
						good++
					} else {
						bad++
					}
				}
			}
		}
	}
	if good < 1000 || bad < 100000 {
		t.Error("too few of the weights test much", good, bad)
	}
}

func TestWeightOf(t *testing.T) {
	heavy := weightsOf(20, []int64{20, 20, 20}, 2, 1, 0)
	cases := []struct {
		name string
		w    impl.Weights
		nums []int64
		want int64
	}{
		{"the document's example", light(), []int64{0, 1, -1, 2}, 3},
		{"a variable", light(), []int64{-1}, 1},
		{"the last variable", weightsOf(7, []int64{0, 1, 9}, 2, 1, 0), []int64{-24}, 7},
		{"a constant", weightsOf(7, []int64{0, 1, 9}, 2, 1, 0), []int64{2}, 9},
		{"a symbol that weighs nothing", hollow(), []int64{1, 1, 1, -1}, 1},
		{"the same variable twice", weightsOf(5, []int64{3, 1, 9}, 2, 1, 0), []int64{0, -1, -1}, 13},
		{"different variables", weightsOf(5, []int64{3, 1, 9}, 2, 1, 0), []int64{0, -1, -24}, 13},
		{"as many as numbers", even(), big(), 6},
		{"MaxTerm numbers that weigh nothing but one", hollow(), nested(60), 1},
		{"MaxTerm numbers of MaxWeight", heavy, nested(60), 1200},
		{"59 numbers of MaxWeight", heavy, comb(59), 1180},
	}
	for _, c := range cases {
		if got := impl.WeightOf(abc(), c.w, c.nums); got != c.want {
			t.Error(c.name, got, c.want)
		}
	}
	if got := impl.WeightOf(wide(), weightsOf(1, []int64{2, 3, 4, 5, 6, 7, 8, 9}, everyPlace(8)...), wideTerm(58)); got != 19*(9+2+2)+2 {
		t.Error("eight symbols", got)
	}
}

// checkWeight checks what a tree weighs, and that it is the weight of its head and those
// of its arguments.
func checkWeight(t *testing.T, sig impl.Sig, c scale, x tree) {
	t.Helper()
	got, parts := impl.WeightOf(sig, c.Weights, x.notation()), c.own(x)
	for _, arg := range x.args {
		parts += impl.WeightOf(sig, c.Weights, arg.notation())
	}
	if got != c.weigh(x) || got != parts {
		t.Fatal("WeightOf", sig, c, x.notation(), got, parts)
	}
}

func TestWeightOfATermAndItsArguments(t *testing.T) {
	m := makerOf(70)
	for _, a := range weighedArenas(m, []int64{-1, -24}, 4) {
		for _, x := range a.trees {
			checkWeight(t, a.sig, a.scale, x)
		}
	}
	for range 300 {
		sig := m.book().sig
		checkWeight(t, sig, scale{m.weights(sig)}, m.tree(sig, 2+m.Int64N(59)))
	}
	for _, x := range deepTrees() {
		for _, w := range fairWeights(abc(), 2) {
			checkWeight(t, abc(), scale{w}, x)
		}
	}
}

func checkLightest(t *testing.T, sig impl.Sig, w impl.Weights, want int64) {
	t.Helper()
	if got := impl.LightestOf(sig, w); got != want {
		t.Fatal("LightestOf", sig, w, got, want)
	}
}

func TestLightestOf(t *testing.T) {
	three := impl.Sig{Arity: []int64{0, 1, 0, 0}}
	checkLightest(t, abc(), light(), 1)
	checkLightest(t, abc(), hollow(), 1)
	checkLightest(t, abc(), even(), 1)
	checkLightest(t, abc(), weightsOf(1, []int64{0, 1, 20}, 2, 1, 0), 20)
	checkLightest(t, abc(), weightsOf(20, []int64{0, 1, 20}, 2, 1, 0), 20)
	checkLightest(t, three, weightsOf(2, []int64{3, 1, 5, 4}, 0, 1, 2, 3), 3)
	checkLightest(t, three, weightsOf(2, []int64{5, 1, 3, 4}, 0, 1, 2, 3), 3)
	checkLightest(t, three, weightsOf(2, []int64{4, 1, 5, 3}, 0, 1, 2, 3), 3)
	checkLightest(t, three, weightsOf(2, []int64{3, 0, 3, 3}, 0, 3, 2, 1), 3)
	checkLightest(t, impl.Sig{Arity: []int64{0}}, weightsOf(7, []int64{8}, 0), 8)
	checkLightest(t, wide(), weightsOf(1, []int64{9, 0, 8, 7, 0, 6, 0, 0}, 0, 1, 2, 3, 4, 5, 7, 6), 6)
}

func TestLightestOfNoConstants(t *testing.T) {
	m := makerOf(71)
	for _, sig := range []impl.Sig{{Arity: []int64{1}}, {Arity: []int64{3}}, {Arity: []int64{1, 2, 3}}, {Arity: []int64{2, 1, 1, 1, 2, 3, 3, 1}}} {
		checkLightest(t, sig, impl.PlainWeights(sig), -1)
		for range 20 {
			checkLightest(t, sig, m.weights(sig), -1)
		}
	}
}

// No ground term weighs less than LightestOf tells, and one weighs so much.
func TestLightestOfAllGroundTerms(t *testing.T) {
	m, without := makerOf(72), 0
	check := func(sig impl.Sig, trees []tree, w impl.Weights) {
		var all []int64
		for _, x := range trees {
			all = append(all, impl.WeightOf(sig, w, x.notation()))
		}
		if len(all) == 0 {
			without++
			all = append(all, -1)
		}
		checkLightest(t, sig, w, slices.Min(all))
	}
	for _, arity := range slicesOf(everyPlace(4), 3)[1:] {
		sig := impl.Sig{Arity: arity}
		var trees []tree
		for size := int64(1); size <= 4; size++ {
			trees = append(trees, treesOf(sig, nil, size)...)
		}
		for range 20 {
			check(sig, trees, m.weights(sig))
		}
	}
	for _, w := range fairWeights(abc(), 3) {
		check(abc(), smallTrees(nil, 6), w)
	}
	if without < 500 {
		t.Error("too few of the signatures test much", without)
	}
}

// Long terms without variables weigh no less either.
func TestLightestOfLongGroundTerms(t *testing.T) {
	m := makerOf(73)
	for range 500 {
		sig := m.book().sig
		c := tree{head: int64(slices.Index(sig.Arity, 0))}
		w, x := m.weights(sig), m.tree(sig, 2+m.Int64N(59)).filled(filling{0: c, 10: c, 20: c})
		if got := impl.LightestOf(sig, w); got < w.Var || got > impl.WeightOf(sig, w, x.notation()) {
			t.Fatal(sig, w, x.notation(), got)
		}
	}
}

func equalWeights(a, b impl.Weights) bool {
	return a.Var == b.Var && slices.Equal(a.Sym, b.Sym) && slices.Equal(a.Rank, b.Rank)
}

func TestPlainWeights(t *testing.T) {
	if got := impl.PlainWeights(abc()); !equalWeights(got, even()) {
		t.Error("the document's example", got)
	}
	for _, sig := range allSigs() {
		size := len(sig.Arity)
		got := impl.PlainWeights(sig)
		if !equalWeights(got, weightsOf(1, slices.Repeat([]int64{1}, size), everyPlace(int64(size))...)) || !impl.WeightsOk(sig, got) {
			t.Fatal(sig, got)
		}
	}
	for _, sig := range badSigs() {
		got := impl.PlainWeights(sig)
		if !equalWeights(got, impl.Weights{}) || impl.WeightsOk(sig, got) {
			t.Error(sig, got)
		}
	}
}

// By the plain weights a term weighs as much as it has numbers.
func TestPlainWeightsCountNumbers(t *testing.T) {
	m := makerOf(74)
	for range 200 {
		sig := m.book().sig
		x := m.tree(sig, 1+m.Int64N(60))
		if got := impl.WeightOf(sig, impl.PlainWeights(sig), x.notation()); got != x.size() {
			t.Fatal(sig, x.notation(), got)
		}
	}
}
