package tests

import (
	"slices"
	"testing"

	"loop.example/g00895/impl"
)

func TestReachOfSmallTerms(t *testing.T) {
	for _, b := range booksOf(abc(), append(someRulings(), swap()), 2) {
		for _, x := range smallTrees([]int64{-1}, 3) {
			for _, steps := range []int64{0, 1, 2, 4} {
				checkSpread(t, b, x, steps)
			}
		}
	}
	for _, b := range longBooks() {
		for _, x := range smallTrees([]int64{-1}, 4) {
			checkSpread(t, b, x, 3)
		}
	}
}

func TestReachOfLongTerms(t *testing.T) {
	m, many, all := makerOf(32), 0, 0
	for i := range 100 {
		b := m.bookOrEnding(i)
		s := checkSpread(t, b, m.bed(b, 1+m.Int64N(40)), m.Int64N(21))
		if len(s.trails) > 5 && len(s.trails[len(s.trails)-1].moves) > 2 {
			many++
		}
		if s.all && len(s.trails) > 5 {
			all++
		}
	}
	if many < 25 || all < 15 {
		t.Error("too few of the terms test much", many, all)
	}
}

// sequences lists every rewrite sequence of at most so many moves from x.
func (b book) sequences(x tree, most int) []trail {
	found := []trail{{from: x}}
	last := found
	for range most {
		var next []trail
		for _, r := range last {
			for _, m := range b.moves(r.last()) {
				if !m.isLong() {
					next = append(next, trail{x, append(slices.Clone(r.moves), m)})
				}
			}
		}
		found = append(found, next...)
		last = next
	}
	return found
}

// P9: a term is found exactly if some rewrite sequence leads to it, and the walk
// to it is one of the shortest.
func TestEveryReachedTermHasASequence(t *testing.T) {
	for _, b := range append(longBooks(), endingBooks()...) {
		sys := b.system()
		for _, x := range append(smallTrees([]int64{-1}, 4), towers(1, 2), onTwo(onOne(tree{head: 2}), onTwo(tree{head: 2}, variable(1)))) {
			shortest := map[string]trail{}
			for _, r := range b.sequences(x, 3) {
				if old, is := shortest[r.last().key()]; !is || len(r.moves) < len(old.moves) {
					shortest[r.last().key()] = r
				}
			}
			for steps := range int64(4) {
				terms, all := impl.ReachOf(sys, x.notation(), steps)
				if !all {
					continue
				}
				count := 0
				for _, r := range shortest {
					if int64(len(r.moves)) > steps {
						checkNotReached(t, sys, x.notation(), r.last().notation(), steps)
						continue
					}
					count++
					w, is := impl.WalkTo(sys, x.notation(), r.last().notation(), steps)
					if !is || len(w.Steps) != len(r.moves) || !impl.WalkOk(sys, w) {
						t.Fatal(sys, x.notation(), r.walk(), w)
					}
				}
				if count != len(terms) {
					t.Fatal(sys, x.notation(), steps, terms, count)
				}
			}
		}
	}
}

// More steps find what fewer steps find, in the same order and by the same walks,
// and then more, by walks that are longer.
func TestMoreStepsContinueTheList(t *testing.T) {
	m, longer, more := makerOf(35), 0, 0
	for i := range 66 {
		b := append(longBooks(), endingBooks()...)[i%11]
		sys, nums := b.system(), m.bed(b, 1+m.Int64N(20)).notation()
		last, all, before := [][]int64{nums}, true, int64(0)
		for _, steps := range []int64{0, 1, 2, 3, 4, 5, 9, 20} {
			terms, done := impl.ReachOf(sys, nums, steps)
			if len(terms) < len(last) || !equalTerms(terms[:len(last)], last) || done && !all || !done && len(terms) != 60 {
				t.Fatal(sys, nums, steps, terms, last)
			}
			for k, u := range terms {
				if k%4 > 0 && len(terms) > 9 {
					continue
				}
				w, is := impl.WalkTo(sys, nums, u, steps)
				old, did := impl.WalkTo(sys, nums, u, before)
				if isNew := k >= len(last); !is || did == isNew || !isNew && !equalWalks(w, old) || isNew && int64(len(w.Steps)) <= before {
					t.Fatal(sys, nums, u, steps, w, old)
				} else if isNew {
					longer++
				}
			}
			last, all, before = terms, done, steps
		}
		if !all {
			more++
		}
	}
	if longer < 200 || more < 12 {
		t.Error("too few of the terms test much", longer, more)
	}
}

// reachByChapters finds the terms with the functions of the chapters before.
func reachByChapters(sys impl.System, nums []int64, steps int64) ([][]int64, bool) {
	found, depths := [][]int64{nums}, []int64{0}
	for i := 0; i < len(found); i++ {
		if depths[i] == steps {
			break
		}
		for _, x := range impl.StepsFrom(sys, found[i]) {
			if !isAmong(found, x.To) {
				found, depths = append(found, x.To), append(depths, depths[i]+1)
			}
		}
		if len(found) > 60 {
			return found[:60], false
		}
	}
	return found, true
}

func TestReachAgreesWithSteps(t *testing.T) {
	m, many := makerOf(36), 0
	for i := range 200 {
		b := m.bookOrEnding(i)
		sys, nums, steps := b.system(), m.bed(b, 1+m.Int64N(60)).notation(), m.Int64N(21)
		want, all := reachByChapters(sys, nums, steps)
		found := len(want)
		if got, is := impl.ReachOf(sys, nums, steps); !equalTerms(got, want) || is != all {
			t.Fatal(sys, nums, steps, got, is)
		}
		hasRedex := func(u []int64) bool { return !impl.NormalIn(sys, u) }
		if got := impl.NormalsOf(sys, nums, steps); !equalTerms(got, slices.DeleteFunc(want, hasRedex)) {
			t.Fatal(sys, nums, steps, got)
		}
		if found > 10 {
			many++
		}
	}
	if many < 60 {
		t.Error("too few of the terms test much", many)
	}
}

// What a strategy reaches is reached, and its normal form is among those that are.
func TestReachAgreesWithStrategies(t *testing.T) {
	m, many := makerOf(37), 0
	for i := range 200 {
		b := endingBooks()[i%len(endingBooks())]
		sys, nums := b.system(), m.bed(b, 1+m.Int64N(24)).notation()
		terms, all := impl.ReachOf(sys, nums, 20)
		if !all {
			continue
		}
		for _, strategy := range strategies() {
			w, done := impl.WalkBy(sys, nums, strategy, 20)
			for k, u := range slicesOfWalk(w) {
				short, is := impl.WalkTo(sys, nums, u, int64(k))
				if !isAmong(terms, u) || !is || len(short.Steps) > k {
					t.Fatal(sys, nums, strategy, u, short)
				}
			}
			end := endOfSteps(w)
			if isAmong(impl.NormalsOf(sys, nums, 20), end) != done {
				t.Fatal(sys, nums, strategy, end, done)
			}
			if len(w.Steps) > 2 {
				many++
			}
		}
	}
	if many < 100 {
		t.Error("too few of the terms test much", many)
	}
}

// A term is joined with each of the terms that are reached from it, and two of
// those are joined if a common one is near.
func TestJoinsAgreeWithReach(t *testing.T) {
	m, many := makerOf(38), 0
	for i := range 22 {
		b := append(endingBooks(), longBooks()...)[i%11]
		sys, nums := b.system(), m.bed(b, 1+m.Int64N(16)).notation()
		terms, _ := impl.ReachOf(sys, nums, 4)
		for k, u := range terms {
			w, _ := impl.WalkTo(sys, nums, u, 4)
			there, back, is := impl.JoinOf(sys, nums, u, 4)
			if !is || len(there.Steps) > len(w.Steps) || !slices.Equal(endOfSteps(there), endOfSteps(back)) || !impl.WalkOk(sys, back) {
				t.Fatal(sys, nums, u, there, back)
			}
			other := terms[(k*7)%len(terms)]
			mine, _ := impl.ReachOf(sys, u, 4)
			theirs, _ := impl.ReachOf(sys, other, 4)
			isTheirs := func(x []int64) bool { return isAmong(theirs, x) }
			first := slices.IndexFunc(mine, isTheirs)
			if first < 0 {
				checkNoJoin(t, sys, u, other, 4)
				continue
			}
			v, _ := impl.WalkTo(sys, u, mine[first], 4)
			w, _ = impl.WalkTo(sys, other, mine[first], 4)
			checkJoins(t, sys, v, w, 4)
			if len(v.Steps) > 0 && len(w.Steps) > 0 {
				many++
			}
		}
	}
	if many < 60 {
		t.Error("too few of the terms test much", many)
	}
}

func TestReachOfInvalidSystems(t *testing.T) {
	for _, x := range badSystems() {
		for _, nums := range append(someTerms(), []int64{0}, []int64{1, -1}, []int64{0, 2, -1}, start(), nil) {
			for _, steps := range []int64{0, 1, 20, -1, 21} {
				checkNoReach(t, x.sys, nums, nums, steps)
			}
		}
	}
}

// Both terms are not valid, or one of them, though the other one may be reached.
func TestReachOfNoTerms(t *testing.T) {
	for _, x := range noTerms() {
		for _, rules := range [][]impl.Rule{nil, rulesOf([][]int64{{0}, {0}}), rulesOf([][]int64{{2}, {2}}), rulesOf([][]int64{{1, -1}, {-1}, {0, -1, -2}, {-1}, {2}, {1, 2}})} {
			for _, steps := range []int64{0, 5, 20, -1, 21} {
				sys := impl.System{Sig: x.sig, Rules: rules}
				checkNoReach(t, sys, x.nums, x.nums, steps)
				for _, nums := range [][]int64{{2}, {-1}, start(), {0}, nil} {
					checkNoReach(t, sys, x.nums, nums, steps)
				}
			}
		}
	}
	for _, nums := range [][]int64{{2}, {-1}, start()} {
		for _, none := range [][]int64{nil, {}, {0}, {0, 2}, {1, 2, 2}} {
			if w, is := impl.WalkTo(sums(), nums, none, 5); is || !isZeroWalk(w) {
				t.Error("WalkTo", nums, none, w)
			}
			checkNoJoin(t, sums(), nums, none, 5)
			checkNoReach(t, sums(), none, nums, 5)
		}
	}
}

// Only the number of steps is not valid, also for terms from which there is none.
func TestNoDepths(t *testing.T) {
	for _, sys := range []impl.System{sums(), systemOf(), bookOf(swap(), grow(), stay()).system(), many(12, []int64{2}, []int64{2})} {
		for _, nums := range append(someTerms(), start()) {
			for _, steps := range noDepths() {
				checkNoReach(t, sys, nums, nums, steps)
				checkNoReach(t, sys, nums, []int64{1, 2}, steps)
			}
			for _, steps := range someDepths(0) {
				terms, _ := impl.ReachOf(sys, nums, steps)
				_, is := impl.WalkTo(sys, nums, nums, steps)
				if len(terms) == 0 || !is || !impl.JoinsIn(sys, nums, nums, steps) {
					t.Fatal(sys, nums, steps)
				}
			}
		}
	}
}

// Terms that differ in any of their numbers are different terms.
func TestTermsThatDifferLittle(t *testing.T) {
	for _, sig := range []impl.Sig{abc(), wide(), {Arity: make([]int64, 8)}} {
		var leaves [][]int64
		for i := range int64(impl.MaxVars) {
			leaves = append(leaves, []int64{-1 - i})
		}
		for n, arity := range sig.Arity {
			if arity == 0 {
				leaves = append(leaves, []int64{int64(n)})
			}
		}
		for i, a := range leaves {
			for j, b := range leaves {
				if impl.JoinsIn(impl.System{Sig: sig}, a, b, 20) != (i == j) {
					t.Fatal(sig, a, b)
				}
				if _, is := impl.WalkTo(impl.System{Sig: sig}, a, b, 20); is != (i == j) {
					t.Fatal(sig, a, b)
				}
			}
		}
	}
	// All of eight constants are reached from the first one, one by one.
	cycle := impl.System{Sig: impl.Sig{Arity: make([]int64, 8)}}
	var want [][]int64
	for n := range int64(8) {
		cycle.Rules = append(cycle.Rules, impl.Rule{L: []int64{n}, R: []int64{(n + 1) % 8}})
		want = append(want, []int64{n})
	}
	checkTerms(t, cycle, []int64{0}, 20, want, true)
	checkTerms(t, cycle, []int64{0}, 7, want, true)
	checkTerms(t, cycle, []int64{0}, 6, want[:7], true)
	checkLengths(t, cycle, []int64{0}, -1)
}
