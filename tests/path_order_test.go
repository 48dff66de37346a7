package tests

import (
	"slices"
	"testing"

	"loop.example/g00895/impl"
)

// checkWhy checks what the functions on two terms say if the lexicographic order
// has this condition for t being greater than s, and the multiset order says isMore.
func checkWhy(t *testing.T, sig impl.Sig, rank, less, more []int64, why int64, isMore bool) {
	t.Helper()
	if got := impl.LpoWhy(sig, rank, less, more); got != why {
		t.Fatal("LpoWhy", sig, rank, less, more, got, why)
	}
	if got := impl.LpoLess(sig, rank, less, more); got != (why > 0) {
		t.Fatal("LpoLess", sig, rank, less, more, got)
	}
	if got := impl.LpoCompare(sig, rank, less, more); (got == -1) != (why > 0) {
		t.Fatal("LpoCompare", sig, rank, less, more, got)
	}
	if got := impl.MpoLess(sig, rank, less, more); got != isMore {
		t.Fatal("MpoLess", sig, rank, less, more, got)
	}
}

// checkPair checks what the functions say of two trees in either order.
func checkPair(t *testing.T, sig impl.Sig, rows, bags *contest, x, y tree) {
	t.Helper()
	less, more := x.notation(), y.notation()
	checkWhy(t, sig, rows.rank, less, more, rows.why(x, y), bags.less(x, y))
	there, back := impl.LpoCompare(sig, rows.rank, less, more), impl.LpoCompare(sig, rows.rank, more, less)
	if want := rows.compared(x, y); there != want {
		t.Fatal("LpoCompare", sig, rows.rank, less, more, there, want)
	}
	// Exchanged terms tell the opposite; 0 and 2 are their own.
	if there%2 == 0 && there != back || there%2 != 0 && there != -back {
		t.Fatal("LpoCompare", sig, rows.rank, less, more, there, back)
	}
}

func TestExamplesOfPathOrders(t *testing.T) {
	checkWhy(t, abc(), falling(), []int64{0, -1, 0, -2, -3}, []int64{0, 0, -1, -2, -3}, 3, false)
	checkWhy(t, abc(), falling(), []int64{2}, []int64{1, 2}, 1, true)
	checkWhy(t, abc(), falling(), []int64{1, 0, -1, -2}, []int64{0, 1, -1, -2}, 2, true)
	checkWhy(t, abc(), falling(), []int64{0, -2, -1}, []int64{0, -1, 1, -2}, 0, true)
	if got := impl.LpoCompare(abc(), falling(), []int64{1, 2}, []int64{2}); got != 1 {
		t.Error("f1(f2) and f2", got)
	}
	if got := impl.LpoCompare(abc(), falling(), []int64{-1}, []int64{-2}); got != 2 {
		t.Error("x0 and x1", got)
	}
}

// A meeting of two terms with what the orders say of the second one being greater.
type pairCase struct {
	name       string
	rank       []int64
	less, more []int64
	why        int64
	isMore     bool
}

func checkCases(t *testing.T, sig impl.Sig, cases []pairCase) {
	t.Helper()
	for _, c := range cases {
		t.Run(c.name, func(t *testing.T) { checkWhy(t, sig, c.rank, c.less, c.more, c.why, c.isMore) })
	}
}

func TestPathOrdersOfVariables(t *testing.T) {
	rising := []int64{0, 1, 2}
	last := append(nested(60)[:59], -24)
	checkCases(t, abc(), []pairCase{
		{"a variable and itself", falling(), []int64{-1}, []int64{-1}, 0, false},
		{"two variables", falling(), []int64{-1}, []int64{-2}, 0, false},
		{"two variables, exchanged", falling(), []int64{-2}, []int64{-1}, 0, false},
		{"a variable around itself", falling(), []int64{-1}, []int64{1, -1}, 1, true},
		{"a variable inside another one's term", falling(), []int64{-1}, []int64{1, -2}, 0, false},
		{"a variable as the second argument", falling(), []int64{-1}, []int64{0, -2, -1}, 1, true},
		{"a variable deep inside", falling(), []int64{-24}, last, 1, true},
		{"no variable as deep", falling(), []int64{-23}, last, 0, false},
		{"a variable and a constant", falling(), []int64{-1}, []int64{2}, 0, false},
		{"a variable and the highest constant", rising, []int64{-1}, []int64{2}, 0, false},
		{"a constant and a variable", falling(), []int64{2}, []int64{-1}, 0, false},
		{"a variable is not greater than what is around it", falling(), []int64{1, -1}, []int64{-1}, 0, false},
		{"a variable is not greater than another one's term", falling(), []int64{1, -1}, []int64{-2}, 0, false},
		{"a lower constant", falling(), []int64{2}, []int64{1, -1}, 2, true},
		{"a higher constant", rising, []int64{2}, []int64{1, -1}, 0, false},
		{"the same term with other variables", falling(), []int64{0, -1, -2}, []int64{0, -2, -1}, 0, false},
		{"the same term with one variable twice", falling(), []int64{0, -1, -2}, []int64{0, -1, -1}, 0, false},
		{"a variable more on the lesser side", falling(), []int64{0, -1, -3}, []int64{0, 1, -1, -2}, 0, false},
		{"a variable more on the greater side", falling(), []int64{0, -1, -1}, []int64{0, 1, -1, -2}, 3, true},
	})
}

func TestPathOrdersOfATermAndItself(t *testing.T) {
	for _, nums := range append(someTerms(), []int64{0, 2, 2}, []int64{0, 0, -1, -2, -3}, []int64{1, -1}) {
		for _, rank := range ranksOf(3) {
			checkWhy(t, abc(), rank, nums, slices.Clone(nums), 0, false)
			if got := impl.LpoCompare(abc(), rank, nums, slices.Clone(nums)); got != 0 {
				t.Error(rank, nums, got)
			}
		}
	}
	for _, rank := range [][]int64{everyPlace(8), {7, 6, 5, 4, 3, 2, 1, 0}} {
		checkWhy(t, wide(), rank, wideTerm(58), wideTerm(58), 0, false)
		if got := impl.LpoCompare(wide(), rank, wideTerm(58), wideTerm(58)); got != 0 {
			t.Error(rank, got)
		}
	}
}

func TestConditionsOfPathOrders(t *testing.T) {
	rising := []int64{0, 1, 2}
	checkCases(t, abc(), []pairCase{
		// Condition 1.
		{"an argument equals it", falling(), []int64{0, 2, 2}, []int64{1, 0, 2, 2}, 1, true},
		{"the second argument equals it", rising, []int64{1, 2}, []int64{0, -1, 1, 2}, 1, true},
		{"an argument is greater", falling(), []int64{0, 2, 2}, []int64{1, 0, 2, 1, 2}, 1, true},
		{"the second argument is greater", rising, []int64{1, 2}, []int64{0, -1, 1, 1, 2}, 1, true},
		{"an argument of an argument equals it", rising, []int64{1, -1}, []int64{0, 0, 2, 1, -1, -2}, 1, true},
		{"all arguments are less", falling(), []int64{0, 2, 2}, []int64{1, 1, 2}, 0, false},
		// Condition 2.
		{"greater than the only argument", falling(), []int64{1, -1}, []int64{0, -1, -2}, 2, true},
		{"not greater than the only argument", falling(), []int64{1, -3}, []int64{0, -1, -2}, 0, false},
		{"the only argument is the term", falling(), []int64{1, 0, -1, -2}, []int64{0, -1, -2}, 0, false},
		{"greater than both arguments", rising, []int64{0, -1, -1}, []int64{1, -1}, 2, true},
		{"not greater than the first argument", rising, []int64{0, -2, -1}, []int64{1, -1}, 0, false},
		{"not greater than the second argument", rising, []int64{0, -1, -2}, []int64{1, -1}, 0, false},
		{"the second argument is the term", rising, []int64{0, -1, 1, -1}, []int64{1, -1}, 0, false},
		{"one argument is an argument of the term", rising, []int64{0, 1, -1, -1}, []int64{1, 1, -1}, 2, true},
		{"no arguments", falling(), []int64{2}, []int64{0, -1, -2}, 2, true},
		{"the head is higher", rising, []int64{1, -1}, []int64{0, -1, -2}, 0, false},
		// Condition 3.
		{"the first arguments are the same", falling(), []int64{0, 2, 2}, []int64{0, 2, 1, 2}, 3, true},
		{"the first arguments are the same variable", falling(), []int64{0, -1, -2}, []int64{0, -1, 1, -2}, 3, true},
		{"the first arguments are the same, the second is less", falling(), []int64{0, -1, 1, -2}, []int64{0, -1, -2}, 0, false},
		{"the first arguments are the same, the second is another variable", falling(), []int64{0, -1, -2}, []int64{0, -1, -3}, 0, false},
		{"the first argument is greater, the second is the same", falling(), []int64{0, -1, 2}, []int64{0, 1, -1, 2}, 3, true},
		{"the first argument is greater, the second is less", falling(), []int64{0, -1, 1, -2}, []int64{0, 1, -1, -2}, 3, false},
		{"the first argument is less, the second is greater", falling(), []int64{0, 1, 2, 2}, []int64{0, 2, 1, 1, 2}, 0, true},
		{"the arguments are greater, but it has the term as an argument", falling(), []int64{0, -1, 0, 1, -1, 2}, []int64{0, 1, -1, 2}, 0, false},
		{"the first argument is greater, but there is another variable", falling(), []int64{0, -1, -3}, []int64{0, 1, -1, -2}, 0, false},
		{"the first argument is greater, but the second has a higher head", rising, []int64{0, -1, 1, -2}, []int64{0, 1, -1, -2}, 0, false},
		{"one argument", rising, []int64{1, 0, 2, 2}, []int64{1, 1, 2}, 3, true},
		{"one argument that is greater by its head", falling(), []int64{1, 1, -1}, []int64{1, 0, -1, 2}, 1, true},
		{"one argument that is less", falling(), []int64{1, 0, -1, 2}, []int64{1, 1, -1}, 0, false},
		// More than one condition.
		{"1 and 2: an argument is the constant", falling(), []int64{2}, []int64{0, 2, 2}, 1, true},
		{"1 and 2: an argument is the term with a lower head", falling(), []int64{1, -1}, []int64{0, 1, -1, 2}, 1, true},
		{"1 and 3: one symbol more", falling(), []int64{1, -1}, []int64{1, 1, -1}, 1, true},
		{"1 and 3: the first argument is the term", falling(), []int64{0, -1, -2}, []int64{0, 0, -1, -2, 2}, 1, true},
	})
}

// The conditions for symbols with three arguments and with several symbols of one
// arity: f0 and f1 have three, f2, f3 and f4 none.
func TestPathOrdersOfThreeArguments(t *testing.T) {
	sig, rank := impl.Sig{Arity: []int64{3, 3, 0, 0, 0}}, []int64{4, 3, 2, 1, 0}
	checkCases(t, sig, []pairCase{
		{"the first two arguments are the same", rank, []int64{0, -1, 4, 3}, []int64{0, -1, 4, 2}, 3, true},
		{"only the first other argument counts", rank, []int64{0, 3, 3, 2}, []int64{0, 3, 2, 4}, 3, false},
		{"the first argument is less", rank, []int64{0, 3, 4, 4}, []int64{0, 4, 2, 2}, 0, true},
		{"the last argument is not below the term", rank, []int64{0, 3, 4, -1}, []int64{0, 2, 4, 4}, 0, false},
		{"a lower head with the same arguments", rank, []int64{1, -1, -2, -3}, []int64{0, -1, -2, -3}, 2, true},
		{"a lower head with other arguments", rank, []int64{1, -3, -1, -1}, []int64{0, -1, -2, -3}, 2, true},
		{"a lower head with the term as its last argument", rank, []int64{1, -3, -1, 0, -1, -2, -3}, []int64{0, -1, -2, -3}, 0, false},
		{"a higher head", rank, []int64{0, -1, -2, -3}, []int64{1, -1, -2, -3}, 0, false},
		{"a lower constant", rank, []int64{4}, []int64{3}, 2, true},
		{"a higher constant", rank, []int64{2}, []int64{3}, 0, false},
	})
}

func TestMultisetsOfArguments(t *testing.T) {
	checkCases(t, abc(), []pairCase{
		{"nothing left of either", falling(), []int64{0, -2, -1}, []int64{0, -1, -2}, 0, false},
		{"nothing left, with symbols", falling(), []int64{0, 2, 1, 2}, []int64{0, 1, 2, 2}, 3, false},
		{"one argument in common", falling(), []int64{0, -1, 2}, []int64{0, 1, 2, -1}, 0, true},
		{"one in common, the others are variables", falling(), []int64{0, -1, -2}, []int64{0, -3, -1}, 0, false},
		{"twice and once", falling(), []int64{0, 1, 2, 2}, []int64{0, 1, 2, 1, 2}, 3, true},
		{"once and twice", falling(), []int64{0, 1, 2, 1, 2}, []int64{0, 1, 2, 2}, 0, false},
		{"twice and once, the other one is greater", falling(), []int64{0, 1, -1, -1}, []int64{0, -1, -1}, 0, false},
		{"once and twice, the other one is greater", falling(), []int64{0, -1, -1}, []int64{0, 1, -1, -1}, 3, true},
		{"twice a variable, and once", falling(), []int64{0, -1, 2}, []int64{0, -1, -1}, 0, false},
		{"one is greater than two", falling(), []int64{0, -1, -1}, []int64{0, 2, 1, -1}, 0, true},
		{"one is greater than two others", falling(), []int64{0, -1, 2}, []int64{0, 2, 1, -1}, 0, true},
		{"one is greater than only one of two", falling(), []int64{0, -1, -2}, []int64{0, 2, 1, -1}, 0, false},
		{"one each", falling(), []int64{0, -2, -1}, []int64{0, 1, -1, 1, -2}, 0, true},
		{"one argument", falling(), []int64{1, 1, -1}, []int64{1, 0, -1, 2}, 1, true},
	})
	sig, rank := impl.Sig{Arity: []int64{3, 0, 0, 0}}, []int64{3, 2, 1, 0}
	checkCases(t, sig, []pairCase{
		{"twice and once of three", rank, []int64{0, 1, 2, 2}, []int64{0, 2, 1, 1}, 0, true},
		{"once and twice of three", rank, []int64{0, 2, 1, 1}, []int64{0, 1, 2, 2}, 3, false},
		{"three times and twice", rank, []int64{0, 1, 3, 1}, []int64{0, 1, 1, 1}, 3, true},
		{"one is greater than three", rank, []int64{0, 2, 3, 2}, []int64{0, 3, 3, 1}, 0, true},
		{"one is greater than two beside one in common", rank, []int64{0, -1, 2, 3}, []int64{0, 1, 3, -1}, 0, true},
		{"what is in common is not used twice", rank, []int64{0, 2, 2, 3}, []int64{0, 2, 3, 3}, 0, false},
		{"the other way round", rank, []int64{0, 2, 3, 3}, []int64{0, 2, 2, 3}, 3, true},
		{"nothing left of three", rank, []int64{0, -1, -2, -3}, []int64{0, -3, -1, -2}, 0, false},
	})
}

// All pairs of trees of few numbers, by every precedence.
func TestPathOrdersOfSmallTerms(t *testing.T) {
	held := [2][4]int{}
	for _, a := range arenas([]int64{-1, -2}, 4) {
		rows, bags := contestOf(a.rank, false), contestOf(a.rank, true)
		for _, x := range a.trees {
			for _, y := range a.trees {
				checkPair(t, a.sig, rows, bags, x, y)
				held[0][rows.why(x, y)]++
				held[1][bags.why(x, y)]++
			}
		}
	}
	for _, of := range held {
		if slices.Min(of[:]) < 500 {
			t.Error("too few of the pairs test much", held)
		}
	}
}

// Long trees that are much alike, so that all conditions are met deep inside.
func TestPathOrdersOfLongTerms(t *testing.T) {
	m, held := makerOf(60), [2][4]int{}
	check := func(sig impl.Sig, x, y tree) {
		if max(x.size(), y.size()) > impl.MaxTerm {
			return
		}
		rank := m.rank(sig)
		rows, bags := contestOf(rank, false), contestOf(rank, true)
		checkPair(t, sig, rows, bags, x, y)
		checkPair(t, sig, rows, bags, y, x)
		for i, c := range []*contest{rows, bags} {
			held[i][c.why(x, y)]++
			held[i][c.why(y, x)]++
		}
	}
	for i := range 1000 {
		z, _ := m.blur(i%2 == 0)
		check(z.sig, z.x, z.y)
	}
	for i := range 1000 {
		b := m.book()
		x := m.tree(b.sig, 2+m.Int64N(59))
		check(b.sig, x, x.put(m.spot(x).path, m.tree(b.sig, 1+int64(i%9))))
		check(b.sig, x, m.gathered(b.sig, x))
		check(b.sig, m.gathered(b.sig, x), m.gathered(b.sig, x))
	}
	for _, of := range held {
		if slices.Min(of[:]) < 150 {
			t.Error("too few of the pairs test much", held)
		}
	}
}

// spot returns one of the subterms of x.
func (m maker) spot(x tree) spot {
	spots := x.spots()
	return spots[m.IntN(len(spots))]
}

// gathered returns a symbol with subterms of x as its arguments.
func (m maker) gathered(sig impl.Sig, x tree) tree {
	y := tree{head: m.Int64N(int64(len(sig.Arity)))}
	for range sig.Arity[y.head] {
		y.args = append(y.args, m.spot(x).sub)
	}
	return y
}

// deepTrees have MaxTerm numbers or nearly, nested as deeply as possible and much
// alike, so that the same two subterms are met in very many ways.
func deepTrees() []tree {
	x, y, c := variable(0), variable(1), tree{head: 2}
	var found []tree
	for _, end := range []tree{x, y, c} {
		left, both := end, end
		for range 29 {
			left = onTwo(left, x)
		}
		for range 14 {
			both = onTwo(onOne(both), onOne(x))
		}
		right := rowOf(30, func(i int64) tree {
			if i < 29 {
				return x
			}
			return end
		})
		found = append(found, tower(59, end), tower(58, onOne(end)), left, right, both, onOne(left), onOne(right))
	}
	return found
}

func TestPathOrdersOfDeepTerms(t *testing.T) {
	for _, rank := range ranksOf(3) {
		rows, bags := contestOf(rank, false), contestOf(rank, true)
		for _, x := range deepTrees() {
			for _, y := range deepTrees() {
				checkPair(t, abc(), rows, bags, x, y)
			}
		}
	}
	sig := impl.Sig{Arity: []int64{0, 3, 3}}
	for _, rank := range ranksOf(3) {
		rows, bags := contestOf(rank, false), contestOf(rank, true)
		var trees []tree
		for head := range int64(3) {
			for at := range 3 {
				x := variable(0)
				for i := range 19 {
					args := []tree{variable(0), variable(1), {head: 0}}
					args[at] = x
					x = tree{head: 1 + (head+int64(i)*head)%2, args: args}
				}
				trees = append(trees, x)
			}
		}
		for _, x := range trees {
			for _, y := range trees {
				checkPair(t, sig, rows, bags, x, y)
			}
		}
	}
}
