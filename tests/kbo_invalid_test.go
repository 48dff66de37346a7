package tests

import (
	"slices"
	"testing"

	"loop.example/g00895/impl"
)

// checkNoKbo checks what every function on terms returns for two of them if an argument
// is not valid, in either order.
func checkNoKbo(t *testing.T, name string, sig impl.Sig, w impl.Weights, a, b []int64) {
	t.Helper()
	for _, x := range [][2][]int64{{a, b}, {b, a}} {
		if why, less := impl.KboWhy(sig, w, x[0], x[1]), impl.KboLess(sig, w, x[0], x[1]); why != 0 || less {
			t.Fatal(name, sig, w, x, why, less)
		}
	}
}

// checkNoWeight checks that a term has no weight.
func checkNoWeight(t *testing.T, name string, sig impl.Sig, w impl.Weights, nums []int64) {
	t.Helper()
	if got := impl.WeightOf(sig, w, nums); got != -1 {
		t.Fatal("WeightOf", name, sig, w, nums, got)
	}
}

// The second one of the terms is the greater one by any weights.
func TestKboOfInvalidWeights(t *testing.T) {
	good := bookOf(shrink(), merge()).system().Rules
	for _, x := range badWeights() {
		checkNoKbo(t, x.name, x.sig, x.w, []int64{-1}, []int64{1, -1})
		checkNoKbo(t, x.name, x.sig, x.w, []int64{-1}, []int64{-1})
		checkNoKbo(t, x.name, x.sig, x.w, []int64{2}, []int64{1, 1, 2})
		checkNoKbo(t, x.name, x.sig, x.w, []int64{0}, []int64{0})
		checkNoKbo(t, x.name, x.sig, x.w, nil, nil)
		for _, nums := range [][]int64{{-1}, {0}, {2}, {1, -1}, {1, 2}, nil, {0, -1, 2}} {
			checkNoWeight(t, x.name, x.sig, x.w, nums)
		}
		checkLightest(t, x.sig, x.w, -1)
		checkKboOrients(t, x.name, impl.System{Sig: x.sig, Rules: good}, x.w, false)
		checkKboOrients(t, x.name, impl.System{Sig: x.sig, Rules: good[:1]}, x.w, false)
	}
}

// someWeights are valid for some of the signatures that the tests use.
func someWeights() []impl.Weights {
	return []impl.Weights{{}, light(), hollow(), even(), impl.PlainWeights(wide()), weightsOf(1, []int64{1}, 0)}
}

func TestKboOfInvalidTerms(t *testing.T) {
	for _, x := range noTerms() {
		for _, w := range append(someWeights(), impl.PlainWeights(x.sig)) {
			for _, valid := range [][]int64{{-1}, {2}, {1, 2}, {0, -1, 2}, {7, 0, 0, 0}, nested(60), x.nums} {
				checkNoKbo(t, x.name, x.sig, w, x.nums, valid)
				checkOften(t, x.sig, x.nums, valid, false)
				checkOften(t, x.sig, valid, x.nums, false)
			}
			checkNoWeight(t, x.name, x.sig, w, x.nums)
		}
	}
	for _, sig := range badSigs() {
		checkOften(t, sig, []int64{-1}, []int64{-1}, false)
		checkOften(t, sig, []int64{2}, []int64{2}, false)
		checkOften(t, sig, nil, nil, false)
		for _, w := range someWeights() {
			checkNoKbo(t, "a bad signature", sig, w, []int64{-1}, []int64{1, -1})
			checkNoKbo(t, "a bad signature", sig, w, []int64{2}, []int64{1, 2})
			checkNoWeight(t, "a bad signature", sig, w, []int64{-1})
			checkNoWeight(t, "a bad signature", sig, w, []int64{2})
			checkLightest(t, sig, w, -1)
			if impl.WeightsOk(sig, w) {
				t.Fatal(sig, w)
			}
		}
	}
}

func TestKboOrientsInvalidSystems(t *testing.T) {
	good := bookOf(shrink(), merge()).system().Rules
	for _, x := range badSystems() {
		for _, w := range append(someWeights(), impl.PlainWeights(x.sys.Sig)) {
			checkKboOrients(t, x.name, x.sys, w, false)
		}
	}
	for _, x := range badRules() {
		for at := range 3 {
			rules := slices.Insert(slices.Clone(good), at, x.rule)
			checkKboOrients(t, x.name, impl.System{Sig: x.sig, Rules: rules}, impl.PlainWeights(x.sig), false)
			checkKboOrients(t, x.name, impl.System{Sig: x.sig, Rules: rules}, light(), false)
		}
	}
	checkKboOrients(t, "many rules", many(5000, []int64{1, -1}, []int64{-1}), light(), false)
}
