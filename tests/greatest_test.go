package tests

import (
	"slices"
	"testing"

	"loop.example/g00895/impl"
)

func checkGreatest(t *testing.T, sig impl.Sig, rank []int64, ts [][]int64, want int64) {
	t.Helper()
	if got := impl.LpoGreatest(sig, rank, ts); got != want {
		t.Fatal("LpoGreatest", sig, rank, ts, got, want)
	}
}

func TestLpoGreatest(t *testing.T) {
	cases := []struct {
		name string
		ts   [][]int64
		want int64
	}{
		{"the document's example", [][]int64{{2}, {1, 2}, {-1}}, 1},
		{"no terms", nil, -1},
		{"an empty list", [][]int64{}, -1},
		{"one term", [][]int64{{2}}, 0},
		{"one variable", [][]int64{{-24}}, 0},
		{"the same term", [][]int64{{1, 2}, {1, 2}, {1, 2}}, 0},
		{"the same term behind a lesser one", [][]int64{{2}, {1, 2}, {1, 2}}, 1},
		{"the same variable", [][]int64{{-1}, {-1}}, 0},
		{"variables that can not be compared", [][]int64{{-1}, {-2}, {-3}}, 0},
		{"a variable can not be compared", [][]int64{{-1}, {2}, {1, 2}}, 0},
		{"a variable is less", [][]int64{{-1}, {2}, {1, -1}}, 2},
		{"two terms that can not be compared", [][]int64{{0, -1, -2}, {0, -2, -1}}, 0},
		{"two terms that can not be compared behind a lesser one", [][]int64{{1, -1}, {0, -1, -2}, {0, -2, -1}}, 1},
		{"the first one", [][]int64{{1, 1, 2}, {1, 2}, {2}}, 0},
		{"the last one", [][]int64{{2}, {1, 2}, {1, 1, 2}}, 2},
		{"up and down", [][]int64{{1, 2}, {1, 1, 1, 2}, {2}, {1, 1, 2}}, 1},
		{"greater than its neighbours only", [][]int64{{2}, {1, 2}, {-1}, {0, 2, -1}}, 3},
		{"not greater than a later one that is less than none", [][]int64{{1, -1}, {1, -2}, {1, 1, -1}}, 1},
		{"terms of MaxTerm numbers", [][]int64{comb(59), nested(60), nested(59)}, 0},
		{"terms of MaxTerm numbers, the greatest one behind", [][]int64{nested(59), nested(60), {2}}, 1},
	}
	for _, c := range cases {
		t.Run(c.name, func(t *testing.T) { checkGreatest(t, abc(), falling(), c.ts, c.want) })
	}
	checkGreatest(t, abc(), []int64{0, 1, 2}, [][]int64{{0, 2, 2}, {2}, {1, 2}}, 2)
	checkGreatest(t, abc(), []int64{2, 0, 1}, [][]int64{{1, 2}, {2}, {0, -1, 2}}, 2)
}

// It takes MaxRules terms and no more.
func TestLpoGreatestUpToTheLimit(t *testing.T) {
	for size := range 20 {
		rising := make([][]int64, size)
		for i := range rising {
			rising[i] = nested(41 + i)
		}
		want := int64(size) - 1
		same := slices.Repeat([][]int64{{2}}, size)
		first := int64(0)
		if size == 0 {
			first = -1
		}
		if size > 12 {
			want, first = -1, -1
		}
		checkGreatest(t, abc(), falling(), rising, want)
		checkGreatest(t, abc(), falling(), same, first)
	}
	for _, size := range []int{13, 14, 60, 5000} {
		checkGreatest(t, abc(), falling(), make([][]int64, size), -1)
		checkGreatest(t, abc(), falling(), slices.Repeat([][]int64{{2}}, size), -1)
	}
}

// Lists of small and of long terms, with repetitions. In some of them the longer terms
// are behind, so that the result is too.
func TestLpoGreatestOfManyLists(t *testing.T) {
	m, at := makerOf(68), map[int64]int{}
	check := func(sig impl.Sig, rank []int64, one func() tree) {
		for size := range 2 * impl.MaxRules {
			trees := several(min(size, impl.MaxRules), func(int64) tree { return one() })
			if size%2 == 0 {
				slices.SortStableFunc(trees, func(x, y tree) int { return int(x.size() - y.size()) })
			}
			var ts [][]int64
			for _, x := range trees {
				ts = append(ts, x.notation())
			}
			want := contestOf(rank, false).greatest(trees)
			checkGreatest(t, sig, rank, ts, want)
			at[want]++
		}
	}
	for _, a := range arenas([]int64{-1, -2}, 4) {
		check(a.sig, a.rank, func() tree { return a.trees[m.IntN(len(a.trees))] })
	}
	for range 20 {
		sig := m.book().sig
		check(sig, m.rank(sig), func() tree { return m.tree(sig, 1+m.Int64N(60)) })
	}
	for i := range int64(impl.MaxRules) {
		if at[i] < 5 {
			t.Error("too few of the lists test much", at)
		}
	}
}
