package tests

import (
	"slices"
	"testing"

	"loop.example/g00895/impl"
)

// checkOrients checks what both orders say of a system.
func checkOrients(t *testing.T, name string, sys impl.System, rank []int64, all, bags bool) {
	t.Helper()
	if got := impl.OrientsAll(sys, rank); got != all {
		t.Fatal("OrientsAll", name, sys, rank, got)
	}
	if got := impl.OrientsBags(sys, rank); got != bags {
		t.Fatal("OrientsBags", name, sys, rank, got)
	}
}

// checkBook checks what both orders say of a book, and reports it.
func checkBook(t *testing.T, b book, rank []int64) (all, bags bool) {
	t.Helper()
	all, bags = contestOf(rank, false).orients(b), contestOf(rank, true).orients(b)
	checkOrients(t, "", b.system(), rank, all, bags)
	return all, bags
}

func TestExamplesOfOrients(t *testing.T) {
	checkOrients(t, "assoc", bookOf(assoc(), plusZero()).system(), falling(), true, false)
	checkOrients(t, "assoc without the second rule", bookOf(assoc()).system(), falling(), true, false)
	checkOrients(t, "the second rule alone", bookOf(plusZero()).system(), falling(), true, true)
	checkOrients(t, "sums", sums(), falling(), true, true)
	checkOrients(t, "sums with another precedence", sums(), []int64{0, 1, 2}, false, false)
	checkOrients(t, "sums with the first precedence", sums(), []int64{1, 0, 2}, true, true)
}

func TestOrientsOfNoRules(t *testing.T) {
	for _, rank := range ranksOf(3) {
		checkOrients(t, "no rules", systemOf(), rank, true, true)
		checkOrients(t, "an empty list", impl.System{Sig: abc(), Rules: []impl.Rule{}}, rank, true, true)
		checkOrients(t, "behind the length", impl.System{Sig: abc(), Rules: bookOf(swap(), grow()).system().Rules[:0]}, rank, true, true)
	}
	for _, x := range badRanks() {
		checkOrients(t, x.name, impl.System{Sig: x.sig}, x.rank, false, false)
	}
}

func TestOrientsOfNamedRules(t *testing.T) {
	x, y, c := variable(0), variable(1), tree{head: 2}
	left, right := ruling{onTwo(onOne(x), y), onTwo(x, onOne(y))}, ruling{onTwo(x, onOne(y)), onTwo(onOne(x), y)}
	cases := []struct {
		name      string
		b         book
		all, bags bool
	}{
		{"swap", bookOf(swap()), false, false},
		{"grow", bookOf(grow()), false, false},
		{"shrink", bookOf(shrink()), true, true},
		{"a constant becomes itself", bookOf(stay()), false, false},
		{"a rule with the same sides", bookOf(ruling{onTwo(x, y), onTwo(x, y)}), false, false},
		{"merge", bookOf(merge()), true, true},
		{"double", bookOf(double()), false, false},
		{"a symbol moves to the right", bookOf(left), true, false},
		{"a symbol moves to the left", bookOf(right), false, false},
		{"swapped with one symbol less", bookOf(ruling{onTwo(x, onOne(y)), onTwo(y, x)}), false, true},
		{"a rule without variables", bookOf(ruling{onTwo(c, c), onOne(onOne(c))}), true, true},
		{"undo", bookOf(undo()), true, true},
	}
	for _, z := range cases {
		checkOrients(t, z.name, z.b.system(), falling(), z.all, z.bags)
		all, bags := checkBook(t, z.b, falling())
		if all != z.all || bags != z.bags {
			t.Error(z.name, all, bags)
		}
	}
}

// One rule that is not oriented is enough, wherever it stands, up to MaxRules rules.
func TestOrientsOfOneRuleAmongOthers(t *testing.T) {
	good := ruling{onOne(onOne(variable(0))), onOne(variable(0))}
	bad := []struct {
		x         ruling
		all, bags bool
	}{{swap(), false, false}, {grow(), false, false}, {assoc(), true, false}, {ruling{onTwo(variable(0), onOne(variable(1))), onTwo(variable(1), variable(0))}, false, true}}
	for size := 1; size <= 13; size++ {
		list := slices.Repeat([]ruling{good}, size)
		checkOrients(t, "all", bookOf(list...).system(), falling(), size <= 12, size <= 12)
		for at := range list {
			for _, z := range bad {
				others := slices.Clone(list)
				others[at] = z.x
				checkOrients(t, "all but one", bookOf(others...).system(), falling(), z.all && size <= 12, z.bags && size <= 12)
			}
		}
	}
}

func TestOrientsOfSomeBooks(t *testing.T) {
	all, bags, one := 0, 0, 0
	count := func(b book, rank []int64) {
		isAll, isBags := checkBook(t, b, rank)
		if isAll {
			all++
		}
		if isBags {
			bags++
		}
		if isAll != isBags {
			one++
		}
	}
	for _, rank := range ranksOf(3) {
		for _, b := range booksOf(abc(), someRulings(), 2) {
			count(b, rank)
		}
		for _, x := range shortRulings() {
			count(bookOf(x), rank)
		}
	}
	m := makerOf(66)
	for range 300 {
		b := m.book()
		count(b, m.rank(b.sig))
		if len(b.list) > 0 {
			count(book{b.sig, b.list[:1]}, m.rank(b.sig))
		}
	}
	if all < 400 || bags < 400 || one < 50 {
		t.Error("too few of the books test much", all, bags, one)
	}
}

// oriented returns a book that both orders or one of them accept.
func (m maker) oriented() (book, []int64) {
	sig := m.book().sig
	rank := m.rank(sig)
	rows, bags := contestOf(rank, false), contestOf(rank, true)
	return m.orientedBy(sig, func(x, y tree) bool { return rows.less(x, y) || bags.less(x, y) }), rank
}

// orientedBy returns a book of rules whose right side is made of parts of the left one
// and less than it.
func (m maker) orientedBy(sig impl.Sig, less func(x, y tree) bool) book {
	b := book{sig: sig}
	for range 60 {
		l := m.tree(sig, 2+m.Int64N(9))
		if x := (ruling{l, m.gathered(sig, l)}); x.isRule() && x.r.size() <= 20 && less(x.r, x.l) {
			b.list = append(b.list, x)
		}
	}
	return book{sig, b.list[:min(len(b.list), 1+m.IntN(impl.MaxRules))]}
}

// checkDescent checks that along each step from a term the term becomes less in the
// orders that orient the system, and returns how many steps there were.
func checkDescent(t *testing.T, orders []termOrder, sys impl.System, rank, nums []int64) int {
	t.Helper()
	checked := 0
	for _, o := range orders {
		if !o.orients(sys, rank) {
			continue
		}
		for _, x := range impl.StepsFrom(sys, nums) {
			checked++
			if !o.less(sys.Sig, rank, x.To, nums) || o.less(sys.Sig, rank, nums, x.To) {
				t.Fatal(o.name, sys, rank, nums, x)
			}
		}
	}
	return checked
}

// checkLongDescent does so for a long term and those that come of it one after the other.
func checkLongDescent(t *testing.T, m maker, orders []termOrder, b book, rank []int64) int {
	t.Helper()
	checked, x := 0, m.bed(b, 2+m.Int64N(40))
	for x.size() <= impl.MaxTerm {
		checked += checkDescent(t, orders, b.system(), rank, x.notation())
		moves := b.moves(x)
		if len(moves) == 0 {
			break
		}
		x = moves[m.IntN(len(moves))].to
	}
	return checked
}

func TestStepsMakeTermsLess(t *testing.T) {
	checked := 0
	for _, rank := range ranksOf(3) {
		for _, b := range booksOf(abc(), someRulings(), 2) {
			for _, x := range smallTrees([]int64{-1, -24}, 4) {
				checked += checkDescent(t, pathOrders(), b.system(), rank, x.notation())
			}
		}
	}
	if checked < 10000 {
		t.Error("too few of the steps test much", checked)
	}
}

func TestStepsMakeLongTermsLess(t *testing.T) {
	m, checked, books := makerOf(67), 0, 0
	for i := range 300 {
		b, rank := m.oriented()
		if i%3 == 0 {
			b, rank = bookOf(assoc(), plusZero(), plusNext(), merge(), shrink()), falling()
		}
		if impl.OrientsAll(b.system(), rank) || impl.OrientsBags(b.system(), rank) {
			books++
		}
		if len(b.list) == 0 {
			continue
		}
		checked += checkLongDescent(t, m, pathOrders(), b, rank)
	}
	if checked < 5000 || books < 150 {
		t.Error("too few of the steps test much", checked, books)
	}
}
