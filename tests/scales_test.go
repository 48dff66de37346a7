package tests

import (
	"slices"

	"loop.example/g00895/impl"
)

// A scale is Weights with which trees are weighed. What the tests expect of the
// Knuth-Bendix order is computed from scales and trees, as the document tells: every
// condition by itself.
type scale struct{ impl.Weights }

// own is the weight of the head of x alone.
func (c scale) own(x tree) int64 {
	if x.head < 0 {
		return c.Var
	}
	return c.Sym[x.head]
}

func (c scale) weigh(x tree) int64 {
	sum := c.own(x)
	for _, arg := range x.args {
		sum += c.weigh(arg)
	}
	return sum
}

// isAsOften reports whether every variable occurs in y at least as often as in x.
func (x tree) isAsOften(y tree) bool {
	isMore := func(i int64) bool { return x.count(-1-i) > y.count(-1-i) }
	return !slices.ContainsFunc(x.varSet(), isMore)
}

// conditions tells which of the four conditions for y being greater than x hold.
func (c scale) conditions(x, y tree) []bool {
	if !x.isAsOften(y) {
		return nil
	}
	less, more := c.weigh(x), c.weigh(y)
	areSymbols := x.head >= 0 && y.head >= 0
	return []bool{
		more > less,
		more == less && x.head < 0 && c.isWrapped(x, y),
		more == less && areSymbols && c.Rank[y.head] > c.Rank[x.head],
		more == less && areSymbols && y.head == x.head && c.isLessRow(x.args, y.args),
	}
}

// isWrapped reports whether y is x inside one or more unary symbols of weight 0.
func (c scale) isWrapped(x, y tree) bool {
	if len(y.args) != 1 || c.own(y) != 0 {
		return false
	}
	return y.args[0].isSame(x) || c.isWrapped(x, y.args[0])
}

// isLessRow reports whether the rows differ and the first other one of ys is greater.
func (c scale) isLessRow(xs, ys []tree) bool {
	for i, x := range xs {
		if !x.isSame(ys[i]) {
			return c.less(x, ys[i])
		}
	}
	return false
}

// why tells the first condition by which y is greater than x, or 0.
func (c scale) why(x, y tree) int64 { return int64(slices.Index(c.conditions(x, y), true) + 1) }

func (c scale) less(x, y tree) bool { return c.why(x, y) > 0 }

// orients reports whether the left side of every ruling is the greater one.
func (c scale) orients(b book) bool {
	return b.all(func(x ruling) bool { return c.less(x.r, x.l) })
}

// order is the Knuth-Bendix order with the weights of c and any precedence.
func (c scale) order() termOrder {
	with := func(rank []int64) impl.Weights { return impl.Weights{Var: c.Var, Sym: c.Sym, Rank: rank} }
	return termOrder{
		name:    "KboLess",
		less:    func(sig impl.Sig, rank, s, t []int64) bool { return impl.KboLess(sig, with(rank), s, t) },
		orients: func(sys impl.System, rank []int64) bool { return impl.KboOrients(sys, with(rank)) },
	}
}

func weightsOf(ofVar int64, sym []int64, rank ...int64) impl.Weights {
	return impl.Weights{Var: ofVar, Sym: sym, Rank: rank}
}

func cloneWeights(w impl.Weights) impl.Weights {
	return weightsOf(w.Var, slices.Clone(w.Sym), slices.Clone(w.Rank)...)
}

// These are weights for the example's signature: those of the document's first example,
// those in which f1 weighs nothing, and those in which everything weighs as much.
func light() impl.Weights  { return weightsOf(1, []int64{0, 1, 1}, 2, 1, 0) }
func hollow() impl.Weights { return weightsOf(1, []int64{0, 0, 1}, 1, 2, 0) }
func even() impl.Weights   { return weightsOf(1, []int64{1, 1, 1}, 0, 1, 2) }

// isFair reports whether the weights are valid for a signature that is.
func isFair(sig impl.Sig, w impl.Weights) bool {
	size := int64(len(sig.Arity))
	isRank := slices.Equal(slices.Sorted(slices.Values(w.Rank)), everyPlace(size))
	if int64(len(w.Sym)) != size || !isRank || w.Var <= 0 || w.Var > 20 {
		return false
	}
	for f, arity := range sig.Arity {
		weight := w.Sym[f]
		isNegative, isLight := weight < 0, arity == 0 && weight < w.Var
		isHollow := arity == 1 && weight == 0 && w.Rank[f] != size-1
		if isNegative || weight > 20 || isLight || isHollow {
			return false
		}
	}
	return true
}

// fairWeights lists the valid weights up to most for one or two symbols or three.
func fairWeights(sig impl.Sig, most int64) []impl.Weights {
	var found []impl.Weights
	for _, sym := range slicesOf(everyPlace(most+1), len(sig.Arity)) {
		for ofVar := range most {
			for _, rank := range ranksOf(int64(len(sig.Arity))) {
				if w := weightsOf(ofVar+1, sym, rank...); isFair(sig, w) {
					found = append(found, w)
				}
			}
		}
	}
	return found
}

// weights returns valid weights of a signature, mostly small ones, so that many terms
// weigh the same.
func (m maker) weights(sig impl.Sig) impl.Weights {
	w := impl.Weights{Var: 1 + m.Int64N(2), Rank: m.rank(sig)}
	if m.IntN(8) == 0 {
		w.Var = 1 + m.Int64N(impl.MaxWeight)
	}
	for f, arity := range sig.Arity {
		weight := m.Int64N(3)
		switch {
		case arity == 0:
			weight = min(w.Var+weight/2, impl.MaxWeight)
		case arity == 1 && w.Rank[f] < int64(len(sig.Arity))-1:
			weight = max(weight, 1)
		}
		w.Sym = append(w.Sym, weight)
	}
	return w
}

// A weightCase is weights for a signature. Either may not be valid.
type weightCase struct {
	name string
	sig  impl.Sig
	w    impl.Weights
}

func badWeights() []weightCase {
	flat := impl.Sig{Arity: []int64{1, 1, 0}}
	found := []weightCase{
		{"nothing", abc(), impl.Weights{}},
		{"nothing for a variable", abc(), weightsOf(0, []int64{0, 1, 1}, 2, 1, 0)},
		{"less than nothing for a variable", abc(), weightsOf(-1, []int64{0, 1, 1}, 2, 1, 0)},
		{"too much for a variable", abc(), weightsOf(21, []int64{0, 1, 20}, 2, 1, 0)},
		{"too much for a variable and a constant", abc(), weightsOf(21, []int64{0, 1, 21}, 2, 1, 0)},
		{"less than nothing", abc(), weightsOf(1, []int64{-1, 1, 1}, 2, 1, 0)},
		{"less than nothing for the highest unary symbol", abc(), weightsOf(1, []int64{1, -1, 1}, 1, 2, 0)},
		{"less than nothing for a constant", abc(), weightsOf(1, []int64{1, 1, -1}, 2, 1, 0)},
		{"too much", abc(), weightsOf(1, []int64{21, 1, 1}, 2, 1, 0)},
		{"too much for a unary symbol", abc(), weightsOf(1, []int64{1, 21, 1}, 2, 1, 0)},
		{"too much for a constant", abc(), weightsOf(1, []int64{1, 1, 21}, 2, 1, 0)},
		{"a constant that is lighter than a variable", abc(), weightsOf(2, []int64{0, 1, 1}, 2, 1, 0)},
		{"a constant that weighs nothing", abc(), weightsOf(1, []int64{0, 1, 0}, 0, 1, 2)},
		{"a constant that is a little too light", abc(), weightsOf(20, []int64{20, 20, 19}, 2, 1, 0)},
		{"one light constant of two", impl.Sig{Arity: []int64{0, 0}}, weightsOf(3, []int64{3, 2}, 0, 1)},
		{"a lower unary symbol that weighs nothing", abc(), weightsOf(1, []int64{0, 0, 1}, 2, 1, 0)},
		{"the lowest unary symbol weighs nothing", abc(), weightsOf(1, []int64{0, 0, 1}, 2, 0, 1)},
		{"two unary symbols that weigh nothing", flat, weightsOf(1, []int64{0, 0, 1}, 2, 1, 0)},
		{"two unary symbols that weigh nothing, the other one is higher", flat, weightsOf(1, []int64{0, 0, 1}, 0, 2, 1)},
		{"the lower one of two weighs nothing", flat, weightsOf(1, []int64{1, 0, 1}, 2, 1, 0)},
		{"no weights", abc(), weightsOf(1, nil, 2, 1, 0)},
		{"an empty list of weights", abc(), weightsOf(1, []int64{}, 2, 1, 0)},
		{"a weight too few", abc(), weightsOf(1, []int64{1, 1}, 2, 1, 0)},
		{"a weight too many", abc(), weightsOf(1, []int64{1, 1, 1, 1}, 2, 1, 0)},
		{"the weights of more symbols", abc(), weightsOf(1, slices.Repeat([]int64{1}, 8), 2, 1, 0)},
		{"weights for nothing", impl.Sig{}, impl.Weights{Var: 1}},
		{"1 in 32 bits for a variable", abc(), weightsOf(1<<32+1, []int64{1, 1, 1}, 2, 1, 0)},
		{"1 in 32 bits", abc(), weightsOf(1, []int64{1, 1<<32 + 1, 1}, 2, 1, 0)},
	}
	for _, x := range badRanks() {
		found = append(found, weightCase{"a bad rank: " + x.name, x.sig, weightsOf(1, slices.Repeat([]int64{1}, len(x.sig.Arity)), x.rank...)})
		found = append(found, weightCase{"a bad rank with as many weights: " + x.name, x.sig, weightsOf(1, slices.Repeat([]int64{1}, len(x.rank)), x.rank...)})
	}
	return found
}

// A weighed is an arena with weights, whose precedence is that of the arena.
type weighed struct {
	arena
	scale scale
}

// weighedOf returns the trees with each of the weights.
func weighedOf(sig impl.Sig, trees []tree, weights []impl.Weights) []weighed {
	var found []weighed
	for _, w := range weights {
		found = append(found, weighed{arena{sig, trees, w.Rank}, scale{w}})
	}
	return found
}

// weighedArenas have all trees of few numbers over the example's signature with all
// small weights, and those of fewer numbers over other ones with some weights.
func weighedArenas(m maker, vars []int64, most int64) []weighed {
	found := weighedOf(abc(), smallTrees(vars, most), fairWeights(abc(), 2))
	for _, sig := range orderedSigs() {
		var trees []tree
		for size := int64(1); size <= most && len(trees) < 40; size++ {
			trees = append(trees, treesOf(sig, vars, size)...)
		}
		for range 12 {
			found = append(found, weighedOf(sig, trees, []impl.Weights{m.weights(sig)})...)
		}
	}
	return found
}
