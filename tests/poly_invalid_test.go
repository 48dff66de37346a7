package tests

import (
	"slices"
	"testing"

	"loop.example/g00895/impl"
)

// checkNoPolys checks what every function on terms returns for two of them if an argument
// is not valid, in either order.
func checkNoPolys(t *testing.T, name string, sig impl.Sig, ps []impl.Poly, a, b []int64) {
	t.Helper()
	checkPolyOrder(t, name, sig, ps, a, b, false, false)
	checkPolyOrder(t, name, sig, ps, b, a, false, false)
}

// checkNoForm checks that a term has no form and no values.
func checkNoForm(t *testing.T, name string, sig impl.Sig, ps []impl.Poly, nums []int64) {
	t.Helper()
	checkForm(t, name, sig, ps, nums, impl.Poly{}, false)
	for _, values := range [][]int64{nil, {}, {3}, make([]int64, 24), make([]int64, 25), {-1}, {1001}} {
		checkValue(t, name, sig, ps, nums, values, 0, false)
	}
}

// By an interpretation with these symbols, the second one of the terms would be greater.
func TestInvalidPolys(t *testing.T) {
	good := bookOf(shrink(), merge()).system().Rules
	for _, x := range badPolys() {
		checkNoPolys(t, x.name, x.sig, x.ps, []int64{-1}, []int64{1, -1})
		checkNoPolys(t, x.name, x.sig, x.ps, []int64{-1}, []int64{-1})
		checkNoPolys(t, x.name, x.sig, x.ps, []int64{2}, []int64{1, 1, 2})
		checkNoPolys(t, x.name, x.sig, x.ps, []int64{0}, []int64{0})
		checkNoPolys(t, x.name, x.sig, x.ps, nil, nil)
		for _, nums := range [][]int64{{-1}, {-24}, {0}, {2}, {1, -1}, {1, 2}, nil, {0, -1, 2}, {0, 0, 0, 0}} {
			checkNoForm(t, x.name, x.sig, x.ps, nums)
		}
		checkPolys(t, x.name, x.sig, x.ps, false, false)
		checkPolyOrients(t, x.name, impl.System{Sig: x.sig, Rules: good}, x.ps, false, false)
		checkPolyOrients(t, x.name, impl.System{Sig: x.sig, Rules: good[:1]}, x.ps, false, false)
	}
}

// somePolys are interpretations of some of the signatures that the tests use.
func somePolys() [][]impl.Poly {
	_, v := growth()
	return [][]impl.Poly{nil, slanted(), sized(), blind(), impl.SizePolys(wide()), v, {polyOf(1)}}
}

func TestPolysOfInvalidTerms(t *testing.T) {
	for _, x := range noTerms() {
		for _, ps := range append(somePolys(), impl.SizePolys(x.sig)) {
			for _, valid := range [][]int64{{-1}, {2}, {1, 2}, {0, -1, 2}, {7, 0, 0, 0}, nested(60), x.nums} {
				checkNoPolys(t, x.name, x.sig, ps, x.nums, valid)
			}
			checkNoForm(t, x.name, x.sig, ps, x.nums)
		}
	}
	for _, sig := range badSigs() {
		for _, ps := range append(somePolys(), make([]impl.Poly, len(sig.Arity))) {
			checkNoPolys(t, "a bad signature", sig, ps, []int64{-1}, []int64{1, -1})
			checkNoPolys(t, "a bad signature", sig, ps, []int64{2}, []int64{1, 2})
			checkNoForm(t, "a bad signature", sig, ps, []int64{-1})
			checkNoForm(t, "a bad signature", sig, ps, []int64{2})
			checkNoForm(t, "a bad signature", sig, ps, nil)
			checkPolys(t, "a bad signature", sig, ps, false, false)
		}
	}
}

func TestPolyOrientsInvalidSystems(t *testing.T) {
	good := bookOf(shrink(), merge()).system().Rules
	for _, x := range badSystems() {
		for _, ps := range append(somePolys(), impl.SizePolys(x.sys.Sig), make([]impl.Poly, len(x.sys.Sig.Arity))) {
			checkPolyOrients(t, x.name, x.sys, ps, false, false)
		}
	}
	for _, x := range badRules() {
		for at := range 3 {
			rules := slices.Insert(slices.Clone(good), at, x.rule)
			checkPolyOrients(t, x.name, impl.System{Sig: x.sig, Rules: rules}, impl.SizePolys(x.sig), false, false)
			checkPolyOrients(t, x.name, impl.System{Sig: x.sig, Rules: rules}, sized(), false, false)
		}
	}
	checkPolyOrients(t, "many rules", many(5000, []int64{1, -1}, []int64{-1}), sized(), false, false)
}
