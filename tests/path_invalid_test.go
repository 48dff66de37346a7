package tests

import (
	"math"
	"slices"
	"testing"

	"loop.example/g00895/impl"
)

// checkNoOrder checks what every function on terms returns for two of them if an
// argument is not valid, in either order, and for lists with both of them.
func checkNoOrder(t *testing.T, name string, sig impl.Sig, rank, a, b []int64) {
	t.Helper()
	for _, x := range [][2][]int64{{a, b}, {b, a}} {
		checkWhy(t, sig, rank, x[0], x[1], 0, false)
		if got := impl.LpoCompare(sig, rank, x[0], x[1]); got != 2 {
			t.Fatal("LpoCompare", name, sig, rank, x, got)
		}
		for _, ts := range [][][]int64{x[:], {a, b, a}, {b, a, b}, {b, b, b, a}} {
			checkGreatest(t, sig, rank, ts, -1)
		}
	}
}

// The second of the terms is greater than the first one by any precedence.
func TestPathOrdersOfInvalidRanks(t *testing.T) {
	for _, x := range badRanks() {
		checkNoOrder(t, x.name, x.sig, x.rank, []int64{-1}, []int64{1, -1})
		checkNoOrder(t, x.name, x.sig, x.rank, []int64{-1}, []int64{-1})
		checkNoOrder(t, x.name, x.sig, x.rank, []int64{2}, []int64{1, 1, 2})
		checkNoOrder(t, x.name, x.sig, x.rank, []int64{0, -1, 2}, []int64{0, 2, 2})
		checkNoOrder(t, x.name, x.sig, x.rank, []int64{0}, []int64{0})
		checkNoOrder(t, x.name, x.sig, x.rank, nil, nil)
		checkGreatest(t, x.sig, x.rank, nil, -1)
		checkGreatest(t, x.sig, x.rank, [][]int64{{-1}}, -1)
	}
	for _, n := range []int64{-1, 3, 1 << 32, math.MaxInt64, math.MinInt64} {
		for at := range 3 {
			rank := falling()
			rank[at] = n
			checkNoOrder(t, "one number", abc(), rank, []int64{-1}, []int64{1, -1})
			checkOrients(t, "one number", bookOf(shrink()).system(), rank, false, false)
		}
	}
}

func TestPathOrdersOfInvalidTerms(t *testing.T) {
	for _, x := range noTerms() {
		for _, rank := range [][]int64{everyPlace(int64(len(x.sig.Arity))), falling(), everyPlace(8), nil} {
			for _, valid := range [][]int64{{-1}, {2}, {1, 2}, {0, -1, 2}, {7, 0, 0, 0}, nested(60), x.nums} {
				checkNoOrder(t, x.name, x.sig, rank, x.nums, valid)
			}
			checkGreatest(t, x.sig, rank, [][]int64{x.nums}, -1)
		}
	}
	for _, sig := range badSigs() {
		for _, rank := range [][]int64{everyPlace(int64(len(sig.Arity))), falling(), nil} {
			checkNoOrder(t, "a bad signature", sig, rank, []int64{-1}, []int64{1, -1})
			checkNoOrder(t, "a bad signature", sig, rank, []int64{2}, []int64{2})
			checkNoOrder(t, "a bad signature", sig, rank, []int64{0}, nil)
			checkGreatest(t, sig, rank, nil, -1)
		}
	}
}

// One term that is not valid is enough, wherever it stands.
func TestLpoGreatestOfOneInvalidTerm(t *testing.T) {
	for _, x := range noTerms() {
		if !slices.Equal(x.sig.Arity, abc().Arity) {
			continue
		}
		for size := range impl.MaxRules {
			for at := range size + 1 {
				ts := slices.Insert(slices.Repeat([][]int64{{1, 2}}, size), at, x.nums)
				checkGreatest(t, abc(), falling(), ts, -1)
			}
		}
	}
}

func TestOrientsOfInvalidSystems(t *testing.T) {
	for _, x := range badSystems() {
		for _, rank := range [][]int64{everyPlace(int64(len(x.sys.Sig.Arity))), falling(), nil} {
			checkOrients(t, x.name, x.sys, rank, false, false)
		}
	}
	good := bookOf(shrink(), merge()).system().Rules
	for _, x := range badRules() {
		rank := everyPlace(int64(len(x.sig.Arity)))
		for at := range 3 {
			checkOrients(t, x.name, impl.System{Sig: x.sig, Rules: slices.Insert(slices.Clone(good), at, x.rule)}, rank, false, false)
		}
	}
	for _, sig := range badSigs() {
		checkOrients(t, "a bad signature", impl.System{Sig: sig, Rules: good}, falling(), false, false)
	}
	for _, x := range badRanks() {
		checkOrients(t, x.name, impl.System{Sig: x.sig, Rules: good}, x.rank, false, false)
	}
	checkOrients(t, "many rules", many(5000, []int64{1, -1}, []int64{-1}), falling(), false, false)
}
