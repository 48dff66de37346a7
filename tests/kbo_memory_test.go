package tests

import (
	"slices"
	"testing"

	"loop.example/g00895/impl"
)

func kboCalls() []orderCall {
	return []orderCall{
		{"WeightsOk", func(x orderArgs) int64 { return numberOf(impl.WeightsOk(x.sys.Sig, x.weights())) }},
		{"WeightOf", func(x orderArgs) int64 { return impl.WeightOf(x.sys.Sig, x.weights(), x.a) }},
		{"OftenIn", func(x orderArgs) int64 { return numberOf(impl.OftenIn(x.sys.Sig, x.a, x.b)) }},
		{"KboLess", func(x orderArgs) int64 { return numberOf(impl.KboLess(x.sys.Sig, x.weights(), x.a, x.b)) }},
		{"KboWhy", func(x orderArgs) int64 { return impl.KboWhy(x.sys.Sig, x.weights(), x.a, x.b) }},
		{"KboOrients", func(x orderArgs) int64 { return numberOf(impl.KboOrients(x.sys, x.weights())) }},
		{"LightestOf", func(x orderArgs) int64 { return impl.LightestOf(x.sys.Sig, x.weights()) }},
		{"PlainWeights", func(x orderArgs) int64 { return impl.PlainWeights(x.sys.Sig).Var }},
	}
}

// weighedArgs are arguments of the functions of chapter 14.
func weighedArgs(sys impl.System, w impl.Weights, a, b []int64) orderArgs {
	return orderArgs{sys: sys, rank: w.Rank, a: a, b: b, ofVar: w.Var, sym: w.Sym}
}

func kboSamples() []orderArgs {
	var found []orderArgs
	m := makerOf(89)
	for range 60 {
		sig := m.book().sig
		w := m.weights(sig)
		b := m.orientedBy(sig, scale{w}.less)
		x := m.tree(sig, 2+m.Int64N(40))
		found = append(found, weighedArgs(b.system(), w, x.notation(), m.gathered(sig, x).notation()))
	}
	deep := deepTrees()
	for i, w := range append(someWeights(), badWeights()[0].w, badWeights()[6].w) {
		for j, x := range deep {
			found = append(found, weighedArgs(sums(), w, x.notation(), deep[(i+j*2)%len(deep)].notation()))
		}
	}
	for _, sys := range someSystems() {
		for _, r := range sys.Rules {
			found = append(found, weighedArgs(sys, impl.PlainWeights(sys.Sig), r.R, r.L))
		}
	}
	for _, x := range badWeights() {
		found = append(found, weighedArgs(impl.System{Sig: x.sig}, x.w, []int64{-1}, []int64{1, -1}))
	}
	return found
}

func TestKboArgumentsAreNotModified(t *testing.T) {
	checkOrderArgumentsAreKept(t, kboCalls(), kboSamples())
}

// One slice may be several arguments: the weights the rank, the terms each other or
// parts of each other.
func TestKboArgumentsOfOneSlice(t *testing.T) {
	same := []int64{0, 2, 1}
	for _, nums := range append(someTerms(), []int64{0, -1, 1, -1}, twice(nested(29))) {
		for at := range int64(len(nums)) {
			for _, c := range kboCalls() {
				w, g := guardOf(same), guardOf(nums)
				part := g.nums[at:impl.EndOf(abc(), nums, at)]
				sys := impl.System{Sig: abc(), Rules: []impl.Rule{{L: g.nums, R: part}, {L: part, R: part}}}
				got := c.run(weighedArgs(sys, weightsOf(1, w.nums, w.nums...), part, g.nums))
				apart := slices.Clone(part)
				sys = impl.System{Sig: abc(), Rules: []impl.Rule{{L: nums, R: apart}, {L: apart, R: apart}}}
				want := c.run(weighedArgs(sys, weightsOf(1, slices.Clone(same), same...), apart, nums))
				if got != want || w.touched() || g.touched() {
					t.Fatal(c.name, nums, at, got, want)
				}
			}
		}
	}
	if !impl.WeightsOk(abc(), weightsOf(1, same, same...)) {
		t.Error("these weights test too little")
	}
	// The arities too may be the weights.
	arity := []int64{1, 2, 3}
	if !impl.WeightsOk(impl.Sig{Arity: arity}, weightsOf(1, arity, 0, 1, 2)) || !slices.Equal(arity, []int64{1, 2, 3}) {
		t.Error("the arities as weights")
	}
}

// What is behind the length of a slice is no part of it.
func TestKboBehindTheLength(t *testing.T) {
	sig := impl.Sig{Arity: []int64{2, 1, 0, -1, 4}[:3]}
	w := weightsOf(1, []int64{0, 1, 1, -1, 99}[:3], []int64{2, 1, 0, 0, 9}[:3]...)
	s, more := []int64{-1, 0, 0}[:1], []int64{1, -1, 7, 7}[:2]
	if !impl.WeightsOk(sig, w) || impl.WeightOf(sig, w, more) != 2 || !impl.OftenIn(sig, s, more) || impl.LightestOf(sig, w) != 1 {
		t.Error("numbers behind a length")
	}
	checkKbo(t, sig, w, s, more, 1)
	if got := impl.PlainWeights(sig); !equalWeights(got, even()) {
		t.Error("arities behind a length", got)
	}
	rules := append(bookOf(shrink(), merge(), grow()).system().Rules, impl.Rule{})
	for size := range 5 {
		checkKboOrients(t, "rules behind a length", impl.System{Sig: sig, Rules: rules[:size]}, w, size < 3)
	}
}

// The slices of the weights that are returned are new, and share no memory with each
// other.
func TestPlainWeightsAreNew(t *testing.T) {
	for _, sig := range append(orderedSigs(), abc(), wide(), impl.Sig{}, impl.Sig{Arity: []int64{4}}) {
		arity := guardOf(sig.Arity)
		want := cloneWeights(impl.PlainWeights(sig))
		first, second := impl.PlainWeights(impl.Sig{Arity: arity.nums}), impl.PlainWeights(impl.Sig{Arity: arity.nums})
		overwrite(second.Sym)
		if !slices.Equal(second.Rank, want.Rank) || !equalWeights(first, want) {
			t.Fatal("the weights share memory", sig, first, second)
		}
		overwrite(second.Rank)
		if !equalWeights(first, want) || arity.touched() {
			t.Fatal("the ranks share memory", sig, first)
		}
		overwrite(first.Rank)
		if !slices.Equal(first.Sym, want.Sym) || !equalWeights(impl.PlainWeights(sig), want) {
			t.Fatal("a result was kept", sig, first)
		}
	}
}

// A result that was kept for the memory of an argument would be wrong for what that
// memory holds later.
func TestKboFollowsTheContents(t *testing.T) {
	sig, w, s, more := abc(), light(), []int64{1, -1}, []int64{0, -1, -2}
	sys := impl.System{Sig: sig, Rules: []impl.Rule{{L: more, R: s}}}
	check := func(why, weight, lightest int64) {
		t.Helper()
		checkKbo(t, sig, w, s, more, why)
		checkKboOrients(t, "", sys, w, why > 0)
		checkLightest(t, sig, w, lightest)
		if got := impl.WeightOf(sig, w, more); got != weight {
			t.Fatal("WeightOf", sig, w, more, got, weight)
		}
	}
	check(3, 2, 1)
	w.Rank[0], w.Rank[1] = 1, 2
	check(0, 2, 1)
	w.Sym[0] = 5
	check(1, 7, 1)
	w.Sym[2] = 9
	check(1, 7, 9)
	w.Sym[2] = 0
	check(0, -1, -1)
	w.Sym[2], more[2] = 20, -1
	check(1, 7, 20)
	s[1] = -2
	check(0, 7, 20)
	more[1] = -2
	check(1, 7, 20)
	sig.Arity[2] = 1
	check(1, 7, -1)
	w.Rank[0] = 2
	check(0, -1, -1)
}
