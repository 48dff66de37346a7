package tests

import (
	"slices"
	"testing"

	"loop.example/g00895/impl"
)

func checkKboOrients(t *testing.T, name string, sys impl.System, w impl.Weights, want bool) {
	t.Helper()
	if got := impl.KboOrients(sys, w); got != want {
		t.Fatal("KboOrients", name, sys, w, got)
	}
}

func TestExamplesOfKboOrients(t *testing.T) {
	checkKboOrients(t, "sums", sums(), light(), true)
	checkKboOrients(t, "sums, all weights the same", sums(), weightsOf(1, []int64{1, 1, 1}, 2, 1, 0), true)
	checkKboOrients(t, "sums, the plain weights", sums(), even(), false)
	checkKboOrients(t, "assoc", bookOf(assoc(), plusZero()).system(), light(), true)
}

func TestKboOrientsNoRules(t *testing.T) {
	for _, w := range fairWeights(abc(), 2) {
		checkKboOrients(t, "no rules", systemOf(), w, true)
		checkKboOrients(t, "an empty list", impl.System{Sig: abc(), Rules: []impl.Rule{}}, w, true)
		checkKboOrients(t, "behind the length", impl.System{Sig: abc(), Rules: bookOf(swap(), grow()).system().Rules[:0]}, w, true)
	}
	for _, x := range badWeights() {
		checkKboOrients(t, x.name, impl.System{Sig: x.sig}, x.w, false)
	}
}

func TestKboOrientsNamedRules(t *testing.T) {
	x, y, c := variable(0), variable(1), tree{head: 2}
	heavy := weightsOf(1, []int64{1, 1, 9}, 0, 1, 2)
	cases := []struct {
		name string
		b    book
		w    impl.Weights
		want bool
	}{
		{"swap", bookOf(swap()), light(), false},
		{"grow", bookOf(grow()), light(), false},
		{"grow, by a symbol that weighs nothing", bookOf(grow()), hollow(), false},
		{"shrink", bookOf(shrink()), light(), true},
		{"shrink, by a symbol that weighs nothing", bookOf(shrink()), hollow(), true},
		{"a constant becomes itself", bookOf(stay()), light(), false},
		{"a rule with the same sides", bookOf(ruling{onTwo(x, y), onTwo(x, y)}), light(), false},
		{"merge", bookOf(merge()), light(), true},
		{"double", bookOf(double()), light(), false},
		{"double, below heavy symbols", bookOf(ruling{tower(9, x), onTwo(x, x)}), light(), false},
		{"a higher symbol around less", bookOf(ruling{onTwo(x, c), onOne(x)}), even(), true},
		{"a lower symbol around as much", bookOf(ruling{onTwo(x, c), onOne(onOne(x))}), even(), false},
		{"a higher symbol around as much", bookOf(ruling{onOne(onOne(x)), onTwo(x, c)}), even(), true},
		{"a symbol moves to the right", bookOf(ruling{onTwo(onOne(x), y), onTwo(x, onOne(y))}), light(), true},
		{"a symbol moves to the left", bookOf(ruling{onTwo(x, onOne(y)), onTwo(onOne(x), y)}), light(), false},
		{"a constant becomes two", bookOf(ruling{c, onTwo(c, c)}), light(), false},
		{"a rule without variables", bookOf(ruling{onTwo(c, c), onOne(onOne(c))}), heavy, true},
		{"a rule without variables, by other weights", bookOf(ruling{onTwo(c, c), onOne(onOne(c))}), even(), false},
		{"undo", bookOf(undo()), light(), true},
		{"all that only becomes less", bookOf(undo(), merge(), shrink(), plusZero()), hollow(), true},
	}
	for _, z := range cases {
		checkKboOrients(t, z.name, z.b.system(), z.w, z.want)
		if got := (scale{z.w}).orients(z.b); got != z.want {
			t.Error(z.name, got)
		}
	}
}

// One rule that is not oriented is enough, wherever it stands, up to MaxRules rules.
func TestKboOrientsOneRuleAmongOthers(t *testing.T) {
	good := ruling{onOne(onOne(variable(0))), onOne(variable(0))}
	for size := 1; size <= 13; size++ {
		list := slices.Repeat([]ruling{good}, size)
		checkKboOrients(t, "all", bookOf(list...).system(), light(), size <= 12)
		for at := range list {
			for _, bad := range []ruling{swap(), grow(), stay(), double()} {
				others := slices.Clone(list)
				others[at] = bad
				checkKboOrients(t, "all but one", bookOf(others...).system(), light(), false)
			}
		}
	}
}

func TestKboOrientsSomeBooks(t *testing.T) {
	held := map[bool]int{}
	check := func(b book, w impl.Weights) {
		want := scale{w}.orients(b)
		checkKboOrients(t, "", b.system(), w, want)
		held[want]++
	}
	for i, w := range fairWeights(abc(), 2) {
		for _, x := range shortRulings() {
			check(bookOf(x), w)
		}
		for k, b := range booksOf(abc(), someRulings(), 2) {
			if (i+k)%4 == 0 {
				check(b, w)
			}
		}
	}
	m := makerOf(87)
	for range 300 {
		b := m.book()
		check(b, m.weights(b.sig))
		w := m.weights(b.sig)
		check(m.orientedBy(b.sig, scale{w}.less), w)
	}
	if held[true] < 2000 || held[false] < 2000 {
		t.Error("too few of the books test much", held)
	}
}

// Along each step the term becomes less.
func TestStepsMakeTermsLessByKbo(t *testing.T) {
	checked := 0
	trees := smallTrees([]int64{-1, -24}, 4)
	for i, w := range fairWeights(abc(), 2) {
		for k, b := range booksOf(abc(), someRulings(), 2) {
			for at, x := range trees {
				if (i+k+at)%3 == 0 && (scale{w}).orients(b) {
					checked += checkDescent(t, []termOrder{scale{w}.order()}, b.system(), w.Rank, x.notation())
				}
			}
		}
	}
	if checked < 10000 {
		t.Error("too few of the steps test much", checked)
	}
}

func TestStepsMakeLongTermsLessByKbo(t *testing.T) {
	m, checked, books := makerOf(88), 0, 0
	for i := range 300 {
		sig := m.book().sig
		w := m.weights(sig)
		b := m.orientedBy(sig, scale{w}.less)
		if i%3 == 0 {
			b, w = bookOf(assoc(), plusZero(), plusNext(), merge(), shrink()), light()
		}
		if len(b.list) == 0 {
			continue
		}
		books++
		checkKboOrients(t, "", b.system(), w, true)
		checked += checkLongDescent(t, m, []termOrder{scale{w}.order()}, b, w.Rank)
	}
	if checked < 5000 || books < 150 {
		t.Error("too few of the steps test much", checked, books)
	}
}
