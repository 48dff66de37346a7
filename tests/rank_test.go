package tests

import (
	"math"
	"slices"
	"testing"

	"loop.example/g00895/impl"
)

func TestRankOk(t *testing.T) {
	if !impl.RankOk(abc(), []int64{2, 1, 0}) || impl.RankOk(abc(), []int64{0, 0, 1}) {
		t.Error("the document's example")
	}
	good := []badRank{
		{"one symbol", impl.Sig{Arity: []int64{0}}, []int64{0}},
		{"one symbol with arguments", impl.Sig{Arity: []int64{3}}, []int64{0}},
		{"as the symbols", abc(), []int64{0, 1, 2}},
		{"around", abc(), []int64{1, 2, 0}},
		{"eight symbols", wide(), []int64{3, 7, 0, 6, 1, 5, 2, 4}},
	}
	for _, x := range good {
		if !impl.RankOk(x.sig, x.rank) {
			t.Error(x.name)
		}
	}
	for _, x := range badRanks() {
		if impl.RankOk(x.sig, x.rank) {
			t.Error(x.name, x.sig, x.rank)
		}
	}
}

// All short slices for all numbers of symbols up to four: a precedence is what has the
// numbers of the symbols in some order.
func TestRankOkOfShortSlices(t *testing.T) {
	good := map[int]int{}
	for size := range 5 {
		sig := impl.Sig{Arity: make([]int64, size)}
		for _, rank := range slicesOf([]int64{-1, 0, 1, 2, 3, 4}, 5) {
			want := size > 0 && slices.Equal(slices.Sorted(slices.Values(rank)), everyPlace(int64(size)))
			if impl.RankOk(sig, rank) != want {
				t.Fatal(sig, rank, want)
			}
			if want {
				good[size]++
			}
		}
	}
	if good[0] != 0 || good[1] != 1 || good[2] != 2 || good[3] != 6 || good[4] != 24 {
		t.Error(good)
	}
}

// Every precedence of eight symbols, and what comes of it by a change in one place.
func TestRankOkOfEightSymbols(t *testing.T) {
	ranks := ranksOf(8)
	if len(ranks) != 40320 || impl.MaxSyms != 8 {
		t.Fatal(len(ranks), impl.MaxSyms)
	}
	for i, rank := range ranks {
		if !impl.RankOk(wide(), rank) {
			t.Fatal(rank)
		}
		at := i % 8
		for _, n := range []int64{rank[(at+1)%8], -1, 8, math.MaxInt64, math.MinInt64, rank[at] + 1<<32} {
			changed := slices.Clone(rank)
			changed[at] = n
			if impl.RankOk(wide(), changed) {
				t.Fatal(changed)
			}
		}
		if impl.RankOk(wide(), rank[:7]) || impl.RankOk(wide(), append(rank, 8)) || impl.RankOk(five(), rank) {
			t.Fatal(rank)
		}
	}
}
