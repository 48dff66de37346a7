package tests

import (
	"testing"

	"loop.example/g00895/impl"
)

// An orderCall is a function of the document on the arguments that the tests of orders
// vary: two terms, a list of terms or a system. Its result is given as a number.
type orderCall struct {
	name string
	run  func(x orderArgs) int64
}

// The arguments of an orderCall, valid or not. The path orders take no weights.
type orderArgs struct {
	sys   impl.System
	rank  []int64
	a, b  []int64
	ts    [][]int64
	ofVar int64
	sym   []int64
}

func (x orderArgs) weights() impl.Weights {
	return impl.Weights{Var: x.ofVar, Sym: x.sym, Rank: x.rank}
}

func numberOf(is bool) int64 {
	if is {
		return 1
	}
	return 0
}

func orderCalls() []orderCall {
	return []orderCall{
		{"RankOk", func(x orderArgs) int64 { return numberOf(impl.RankOk(x.sys.Sig, x.rank)) }},
		{"LpoLess", func(x orderArgs) int64 { return numberOf(impl.LpoLess(x.sys.Sig, x.rank, x.a, x.b)) }},
		{"LpoWhy", func(x orderArgs) int64 { return impl.LpoWhy(x.sys.Sig, x.rank, x.a, x.b) }},
		{"LpoCompare", func(x orderArgs) int64 { return impl.LpoCompare(x.sys.Sig, x.rank, x.a, x.b) }},
		{"MpoLess", func(x orderArgs) int64 { return numberOf(impl.MpoLess(x.sys.Sig, x.rank, x.a, x.b)) }},
		{"OrientsAll", func(x orderArgs) int64 { return numberOf(impl.OrientsAll(x.sys, x.rank)) }},
		{"OrientsBags", func(x orderArgs) int64 { return numberOf(impl.OrientsBags(x.sys, x.rank)) }},
		{"LpoGreatest", func(x orderArgs) int64 { return impl.LpoGreatest(x.sys.Sig, x.rank, x.ts) }},
	}
}

func orderSamples() []orderArgs {
	var found []orderArgs
	m := makerOf(69)
	for range 60 {
		b, rank := m.oriented()
		x := m.tree(b.sig, 2+m.Int64N(40))
		y := m.gathered(b.sig, x)
		found = append(found, orderArgs{sys: b.system(), rank: rank, a: x.notation(), b: y.notation(), ts: [][]int64{x.notation(), y.notation(), {-1}}})
	}
	deep := deepTrees()
	for i, rank := range append(ranksOf(3), nil, []int64{0, 0, 1}, []int64{0, 1}) {
		for j, x := range deep {
			y := deep[(i+j*2)%len(deep)]
			found = append(found, orderArgs{sys: sums(), rank: rank, a: x.notation(), b: y.notation(), ts: [][]int64{x.notation(), y.notation(), {0}, {2}}[:2+j%3]})
		}
	}
	for _, sys := range someSystems() {
		rank := everyPlace(int64(len(sys.Sig.Arity)))
		for _, r := range sys.Rules {
			found = append(found, orderArgs{sys: sys, rank: rank, a: r.R, b: r.L, ts: [][]int64{r.R, r.L, r.R}})
		}
	}
	return found
}

// checkOrderArgumentsAreKept checks that no function modifies an argument, nor what is
// behind its length, and that the samples lead to different results of each.
func checkOrderArgumentsAreKept(t *testing.T, calls []orderCall, samples []orderArgs) {
	t.Helper()
	seen := map[string]map[int64]bool{}
	for i, x := range samples {
		for _, c := range calls {
			sys, list := systemGuardOf(x.sys), substGuardOf(substOf(x.ts...))
			rank, a, b, sym := guardOf(x.rank), guardOf(x.a), guardOf(x.b), guardOf(x.sym)
			got := c.run(orderArgs{sys.sys, rank.nums, a.nums, b.nums, list.s.Terms, x.ofVar, sym.nums})
			if sys.touched() || list.touched() || rank.touched() || a.touched() || b.touched() || sym.touched() {
				t.Fatalf("%s modifies an argument: sample %d", c.name, i)
			}
			if want := c.run(x); got != want {
				t.Fatal(c.name, "sees what is behind a length", i, got, want)
			}
			if seen[c.name] == nil {
				seen[c.name] = map[int64]bool{}
			}
			seen[c.name][got] = true
		}
	}
	for name, results := range seen {
		if len(results) < 2 {
			t.Error("the samples test too little", name, results)
		}
	}
}

func TestOrderArgumentsAreNotModified(t *testing.T) {
	checkOrderArgumentsAreKept(t, orderCalls(), orderSamples())
}

// One slice may be several arguments: the rank the arities, the terms each other or
// parts of each other.
func TestOrderArgumentsOfOneSlice(t *testing.T) {
	for _, nums := range append(someTerms(), []int64{0, -1, 1, -1}, twice(nested(29))) {
		for at := range int64(len(nums)) {
			for _, c := range orderCalls() {
				rank, g := guardOf(falling()), guardOf(nums)
				part := g.nums[at:impl.EndOf(abc(), nums, at)]
				sys := impl.System{Sig: impl.Sig{Arity: rank.nums}, Rules: []impl.Rule{{L: g.nums, R: part}, {L: part, R: part}}}
				got := c.run(orderArgs{sys: sys, rank: rank.nums, a: part, b: g.nums, ts: [][]int64{part, g.nums, part}})
				clone := nums[at:impl.EndOf(abc(), nums, at)]
				sys = impl.System{Sig: abc(), Rules: []impl.Rule{{L: nums, R: clone}, {L: clone, R: clone}}}
				want := c.run(orderArgs{sys: sys, rank: falling(), a: clone, b: nums, ts: [][]int64{clone, nums, clone}})
				if got != want || rank.touched() || g.touched() {
					t.Fatal(c.name, nums, at, got, want)
				}
			}
		}
	}
}

// What is behind the length of a slice is no part of it.
func TestOrdersBehindTheLength(t *testing.T) {
	rank, sig := []int64{2, 1, 0, 0, 9}[:3], impl.Sig{Arity: []int64{2, 1, 0, -1, 4}[:3]}
	s, more := []int64{-1, 0, 0}[:1], []int64{1, -1, 7, 7}[:2]
	if !impl.RankOk(sig, rank) || impl.LpoWhy(sig, rank, s, more) != 1 || impl.LpoCompare(sig, rank, s, more) != -1 || !impl.MpoLess(sig, rank, s, more) {
		t.Error("numbers behind a length")
	}
	ts := [][]int64{s, more, nil, {0}, {1, 1, -1}}
	for size, want := range []int64{-1, 0, 1, -1, -1, -1} {
		checkGreatest(t, sig, rank, ts[:size], want)
	}
	rules := append(bookOf(shrink(), merge(), grow()).system().Rules, impl.Rule{})
	for size := range 5 {
		checkOrients(t, "rules behind a length", impl.System{Sig: sig, Rules: rules[:size]}, rank, size < 3, size < 3)
	}
}

// A result that was kept for the memory of an argument would be wrong for what that
// memory holds later.
func TestOrdersFollowTheContents(t *testing.T) {
	sig, rank, s, more := abc(), falling(), []int64{1, -1}, []int64{0, -1, -2}
	sys := impl.System{Sig: sig, Rules: []impl.Rule{{L: more, R: s}}}
	ts := [][]int64{s, more}
	check := func(why, greatest int64) {
		t.Helper()
		checkWhy(t, sig, rank, s, more, why, why > 0)
		checkOrients(t, "", sys, rank, why > 0, why > 0)
		checkGreatest(t, sig, rank, ts, greatest)
	}
	check(2, 1)
	rank[0], rank[1] = 1, 2
	check(0, 0)
	rank[1] = 1
	check(0, -1)
	rank[0] = 2
	check(2, 1)
	s[1] = -3
	check(0, 0)
	s[0], s[1] = 1, -2
	check(2, 1)
	more[0] = 3
	check(0, -1)
	more[0], sig.Arity[2] = 0, 4
	check(0, -1)
	sig.Arity[2] = 1
	check(2, 1)
}
