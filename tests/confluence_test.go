package tests

import (
	"slices"
	"testing"

	"loop.example/g00895/impl"
)

// keysOf returns the terms that are reached from a term, and whether these are all.
func keysOf(sys impl.System, nums []int64, steps int64) (map[string]bool, bool) {
	terms, all := impl.ReachOf(sys, nums, steps)
	found := map[string]bool{}
	for _, u := range terms {
		found[impl.TermText(sys.Sig, u)] = true
	}
	return found, all
}

// checkConfluent checks that any two terms that are reached from nums by a few steps
// are joined by some more, and returns how many pairs were different. It leaves out
// pairs from which too many terms are reached to say so.
func checkConfluent(t *testing.T, sys impl.System, nums []int64, few, more int64) int {
	t.Helper()
	terms, _ := impl.ReachOf(sys, nums, few)
	var reached []map[string]bool
	var known []bool
	pairs := 0
	for i, u := range terms {
		keys, all := keysOf(sys, u, more)
		reached, known = append(reached, keys), append(known, all)
		for j, v := range terms[:i] {
			isCommon := false
			for key := range keys {
				isCommon = isCommon || reached[j][key]
			}
			if !isCommon && all && known[j] {
				t.Fatal("not confluent", sys, nums, v, u)
			}
			if isCommon {
				pairs++
			}
		}
	}
	return pairs
}

// checkOneNormalForm checks that nums has exactly one normal form, by whatever
// strategy, if all sequences from it end. It reports whether they do.
func checkOneNormalForm(t *testing.T, sys impl.System, nums []int64) bool {
	t.Helper()
	if !impl.FiniteIn(sys, nums, 20) {
		return false
	}
	if _, all := impl.ReachOf(sys, nums, 20); !all {
		return false
	}
	normals := impl.NormalsOf(sys, nums, 20)
	if len(normals) != 1 {
		t.Fatal(sys, nums, normals)
	}
	for _, strategy := range strategies() {
		if got, is := impl.NormalBy(sys, nums, strategy, 20); !is || !slices.Equal(got, normals[0]) {
			t.Fatal(sys, nums, strategy, got, normals)
		}
	}
	return true
}

// A tally counts what was checked.
type tally struct{ pairs, ended, split, systems int }

// checkP12 checks P12 for a system with some terms: the peaks are joined or not by
// so many steps.
func (a *tally) checkP12(t *testing.T, sys impl.System, terms [][]int64, steps int64) {
	t.Helper()
	isJoined, of := impl.JoinsAll(sys, steps), verdictOf(sys)
	p, left, right, isSplit := impl.SplitOf(sys, steps)
	if isSplit {
		a.split++
		checkTwoNormalForms(t, sys, steps, parting{p, left, right})
		// Both normal forms are reached from one term.
		if impl.FiniteIn(sys, p.Top, 20) && isJoined {
			t.Fatal(sys, p)
		}
	}
	if of.closed || isJoined {
		a.systems++
	}
	for _, nums := range terms {
		if of.closed {
			a.pairs += checkConfluent(t, sys, nums, 2, 6)
		}
		if isJoined && checkOneNormalForm(t, sys, nums) {
			a.ended++
		}
	}
}

// reducible lists those of the trees that have at least so many moves.
func (b book) reducible(trees []tree, least int) [][]int64 {
	var found [][]int64
	for _, x := range trees {
		if len(b.moves(x)) >= least {
			found = append(found, x.notation())
		}
	}
	return found
}

func TestConfluenceOfClosings(t *testing.T) {
	a := tally{}
	for _, x := range closings() {
		for _, steps := range []int64{x.all, x.all - 1, 20} {
			a.checkP12(t, x.system(), x.b.reducible(smallTrees([]int64{-1, -2}, 5), 1), max(0, steps))
		}
	}
	if a.pairs < 10000 || a.ended < 2000 || a.split < 5 {
		t.Error("too few of the terms test much", a)
	}
}

// All pairs of rules with small sides, and some triples.
func TestConfluenceOfShortRules(t *testing.T) {
	m, a := makerOf(58), tally{}
	rulings, trees := shortRulings(), smallTrees([]int64{-1, -2}, 4)
	for i, x := range rulings {
		for j, y := range rulings {
			if (i+j)%5 > 0 {
				continue
			}
			b := bookOf(x, y)
			if i%2 == 0 {
				b.list = append(b.list, rulings[m.IntN(len(rulings))])
			}
			terms := b.reducible(trees, 2)
			m.Shuffle(len(terms), func(k, l int) { terms[k], terms[l] = terms[l], terms[k] })
			a.checkP12(t, b.system(), terms[:min(len(terms), 6)], 3)
		}
	}
	if a.pairs < 5000 || a.ended < 500 || a.split < 200 || a.systems < 300 {
		t.Error("too few of the terms test much", a)
	}
}

func TestConfluenceOfLongTerms(t *testing.T) {
	m, a := makerOf(59), tally{}
	var books []book
	for _, x := range closings() {
		if x.want.closed || x.all >= 0 {
			books = append(books, x.b)
		}
	}
	for i := range 250 {
		b := books[i%len(books)]
		a.checkP12(t, b.system(), [][]int64{m.bed(b, 2+m.Int64N(12)).notation()}, 4)
	}
	if a.pairs < 2000 || a.ended < 50 {
		t.Error("too few of the terms test much", a)
	}
}

// Each of these systems has two normal forms of one term, and no criterion takes it:
// what is missing is that all peaks are joined, that rewriting terminates, or that no
// variable is twice on the left.
func TestSystemsThatAreNotConfluent(t *testing.T) {
	cases := []struct {
		b      book
		nums   []int64
		joined bool
	}{
		{bookOf(first(), second()), []int64{0, -1, -2}, false},
		{bookOf(undo(), ruling{onOne(variable(0)), tree{head: 2}}), []int64{1, 1, -1}, false},
		{backAndForth(), []int64{2}, true},
		{twins(), []int64{0, 2, 2}, true},
	}
	for i, c := range cases {
		sys := c.b.system()
		normals := impl.NormalsOf(sys, c.nums, 4)
		if len(normals) < 2 || impl.JoinsIn(sys, normals[0], normals[1], 20) {
			t.Error(i, normals)
		}
		if got := verdictOf(sys); got != (verdict{}) || impl.JoinsAll(sys, 20) != c.joined {
			t.Error(i, got)
		}
		if c.joined && impl.FiniteIn(sys, c.nums, 20) {
			t.Error(i)
		}
	}
}
