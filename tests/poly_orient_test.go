package tests

import (
	"slices"
	"testing"

	"loop.example/g00895/impl"
)

// checkPolyOrients checks what the functions on systems say.
func checkPolyOrients(t *testing.T, name string, sys impl.System, ps []impl.Poly, orients, allows bool) {
	t.Helper()
	if got := impl.PolyOrients(sys, ps); got != orients {
		t.Fatal("PolyOrients", name, sys, ps, got)
	}
	if got := impl.PolyAllows(sys, ps); got != allows {
		t.Fatal("PolyAllows", name, sys, ps, got)
	}
}

func TestExamplesOfPolyOrients(t *testing.T) {
	checkPolyOrients(t, "assoc", bookOf(assoc()).system(), slanted(), true, true)
	checkPolyOrients(t, "assoc by the sizes", bookOf(assoc()).system(), impl.SizePolys(abc()), false, true)
	checkPolyOrients(t, "assoc with a second rule", bookOf(assoc(), plusZero()).system(), slanted(), true, true)
	checkPolyOrients(t, "sums", sums(), slanted(), true, true)
	checkPolyOrients(t, "sums by the sizes", sums(), sized(), false, true)
	checkPolyOrients(t, "sums, a coefficient is 0", sums(), blind(), false, false)
}

func TestPolyOrientsNoRules(t *testing.T) {
	for _, v := range lowValuations() {
		checkPolyOrients(t, "no rules", systemOf(), v, v.isStrict(), true)
		checkPolyOrients(t, "an empty list", impl.System{Sig: abc(), Rules: []impl.Rule{}}, v, v.isStrict(), true)
		checkPolyOrients(t, "behind the length", impl.System{Sig: abc(), Rules: bookOf(swap(), grow()).system().Rules[:0]}, v, v.isStrict(), true)
	}
	for _, x := range badPolys() {
		checkPolyOrients(t, x.name, impl.System{Sig: x.sig}, x.ps, false, false)
	}
}

func TestPolyOrientsNamedRules(t *testing.T) {
	x, y, c := variable(0), variable(1), tree{head: 2}
	steep := valuation{polyOf(1, 1, 1), polyOf(1, 9), polyOf(1)}
	cases := []struct {
		name            string
		b               book
		v               valuation
		orients, allows bool
	}{
		{"swap", bookOf(swap()), sized(), false, true},
		{"swap, by other coefficients", bookOf(swap()), slanted(), false, false},
		{"grow", bookOf(grow()), sized(), false, false},
		{"grow, by a symbol that adds nothing", bookOf(grow()), valuation{polyOf(0, 1, 1), polyOf(0, 1), polyOf(0)}, false, true},
		{"shrink", bookOf(shrink()), sized(), true, true},
		{"shrink, by a symbol that adds nothing", bookOf(shrink()), valuation{polyOf(0, 1, 1), polyOf(0, 1), polyOf(0)}, false, true},
		{"shrink, by a symbol that only multiplies", bookOf(shrink()), valuation{polyOf(0, 1, 1), polyOf(0, 2), polyOf(0)}, false, true},
		{"shrink, though another coefficient is 0", bookOf(shrink()), blind(), false, true},
		{"shrink, though its own coefficient is 0", bookOf(shrink()), valuation{polyOf(1, 1, 1), polyOf(1, 0), polyOf(1)}, false, false},
		{"a constant becomes itself", bookOf(stay()), sized(), false, true},
		{"a rule with the same sides", bookOf(ruling{onTwo(x, y), onTwo(x, y)}), slanted(), false, true},
		{"merge", bookOf(merge()), sized(), true, true},
		{"merge, by the first argument", bookOf(merge()), valuation{polyOf(0, 1, 0), polyOf(1, 1), polyOf(0)}, false, true},
		{"double", bookOf(double()), sized(), false, false},
		{"double, by a coefficient 2", bookOf(double()), valuation{polyOf(0, 1, 1), polyOf(1, 2), polyOf(0)}, true, true},
		{"double, by a coefficient 2 alone", bookOf(double()), valuation{polyOf(0, 1, 1), polyOf(0, 2), polyOf(0)}, false, true},
		{"a rule without variables", bookOf(ruling{onTwo(c, c), onOne(onOne(c))}), valuation{polyOf(1, 1, 1), polyOf(0, 1), polyOf(1)}, true, true},
		{"a rule without variables, the same value", bookOf(ruling{onTwo(c, c), onOne(onOne(c))}), sized(), false, true},
		{"a rule without variables, a greater value", bookOf(ruling{onTwo(c, c), onOne(onOne(c))}), steep, false, false},
		{"a variable that is not on the right side", bookOf(ruling{onTwo(x, y), x}), sized(), true, true},
		{"the greatest variable is not on the right side", bookOf(ruling{onTwo(x, variable(23)), onOne(x)}), sized(), false, true},
		{"undo", bookOf(undo()), sized(), true, true},
		{"all that only becomes less", bookOf(undo(), merge(), shrink(), plusZero()), sized(), true, true},
		{"sides without a form", bookOf(ruling{tower(13, x), x}), steep, false, false},
		{"a right side without a form", bookOf(ruling{onTwo(x, y), tower(13, x)}), steep, false, false},
		{"sides with the greatest form", bookOf(ruling{tower(12, x), x}), steep, true, true},
		{"sides of the same terms without a form", bookOf(ruling{tower(59, x), tower(59, x)}), steep, false, false},
	}
	for _, z := range cases {
		checkPolyOrients(t, z.name, z.b.system(), z.v, z.orients, z.allows)
		if orients, allows := z.v.orients(z.b), z.v.allows(z.b); orients != z.orients || allows != z.allows {
			t.Error(z.name, orients, allows)
		}
	}
}

// One rule that does not fall is enough, wherever it stands, up to MaxRules rules.
func TestPolyOrientsOneRuleAmongOthers(t *testing.T) {
	good := ruling{onOne(onOne(variable(0))), onOne(variable(0))}
	for size := 1; size <= 13; size++ {
		list := slices.Repeat([]ruling{good}, size)
		checkPolyOrients(t, "all", bookOf(list...).system(), sized(), size <= 12, size <= 12)
		for at := range list {
			for _, z := range []struct {
				x      ruling
				allows bool
			}{{swap(), true}, {assoc(), true}, {stay(), true}, {grow(), false}, {double(), false}} {
				others := slices.Clone(list)
				others[at] = z.x
				checkPolyOrients(t, "all but one", bookOf(others...).system(), sized(), false, z.allows && size <= 12)
			}
		}
	}
}

func TestPolyOrientsSomeBooks(t *testing.T) {
	var held [3]int
	check := func(b book, v valuation) {
		orients, allows := v.orients(b), v.allows(b)
		checkPolyOrients(t, "", b.system(), v, orients, allows)
		switch {
		case orients:
			held[0]++
		case allows:
			held[1]++
		default:
			held[2]++
		}
	}
	for i, v := range append(lowValuations(), slanted(), sized(), blind()) {
		for k, x := range shortRulings() {
			if (i+k)%3 == 0 {
				check(bookOf(x), v)
			}
		}
		for k, b := range booksOf(abc(), someRulings(), 2) {
			if (i+k)%8 == 0 {
				check(b, v)
			}
		}
	}
	m := makerOf(108)
	for i := range 200 {
		b := m.book()
		check(b, m.valuation(b.sig, leasts()[i%4]))
		v := m.valuation(b.sig, int64(i%2))
		check(m.orientedBy(b.sig, v.less), v)
		check(m.orientedBy(b.sig, v.atMost), v)
	}
	if slices.Min(held[:]) < 500 {
		t.Error("too few of the books test much", held)
	}
}

// checkFall checks that along each step from a term its value falls, if the interpretation
// orients the system, and does not rise, if it only allows it.
func checkFall(t *testing.T, sys impl.System, v valuation, nums []int64, all [][]int64) int {
	t.Helper()
	orients, allows := impl.PolyOrients(sys, v), impl.PolyAllows(sys, v)
	if !allows || !v.hasForm(sys.Sig, nums) {
		return 0
	}
	checked := 0
	for _, x := range impl.StepsFrom(sys, nums) {
		if !v.hasForm(sys.Sig, x.To) {
			continue
		}
		if !impl.PolyAtMost(sys.Sig, v, x.To, nums) || orients && !impl.PolyLess(sys.Sig, v, x.To, nums) {
			t.Fatal(sys, v, nums, x)
		}
		for _, values := range all {
			before, is := impl.ValueAt(sys.Sig, v, nums, values)
			after, are := impl.ValueAt(sys.Sig, v, x.To, values)
			if is && (!are || after > before || orients && after == before) {
				t.Fatal(sys, v, nums, x, values, before, after)
			}
			checked++
		}
	}
	return checked
}

func TestStepsLetValuesFall(t *testing.T) {
	fall, stay := 0, 0
	trees := smallTrees([]int64{-1, -2}, 4)
	all := [][]int64{nil, {1}, {1000, 0}, {0, 1000}, {7, 5}}
	for i, v := range append(lowValuations(), slanted(), sized(), blind()) {
		for k, b := range booksOf(abc(), someRulings(), 2) {
			if (i+k)%2 > 0 || !v.allows(b) {
				continue
			}
			for at, x := range trees {
				switch {
				case (i+k+at)%3 > 0:
				case v.orients(b):
					fall += checkFall(t, b.system(), v, x.notation(), all)
				default:
					stay += checkFall(t, b.system(), v, x.notation(), all)
				}
			}
		}
	}
	if min(fall, stay) < 10000 {
		t.Error("too few of the steps test much", fall, stay)
	}
}

// The same for long terms and those that come of them one after the other.
func TestStepsLetValuesOfLongTermsFall(t *testing.T) {
	m, fall, stay := makerOf(109), 0, 0
	for i := range 200 {
		sig := m.book().sig
		v := m.valuation(sig, int64(i%4/2))
		b := m.orientedBy(sig, v.less)
		switch i % 4 {
		case 0:
			b, v = bookOf(assoc(), plusZero(), plusNext(), merge(), shrink()), slanted()
		case 1:
			b = m.orientedBy(sig, v.atMost)
		}
		if len(b.list) == 0 {
			continue
		}
		if x := m.bed(b, 2+m.Int64N(40)); v.orients(b) {
			fall += m.checkLongFall(t, b, v, x)
		} else {
			stay += m.checkLongFall(t, b, v, x)
		}
	}
	if min(fall, stay) < 3000 {
		t.Error("too few of the steps test much", fall, stay)
	}
}

func (m maker) checkLongFall(t *testing.T, b book, v valuation, x tree) int {
	t.Helper()
	checked := 0
	for range 15 {
		if x.size() > impl.MaxTerm {
			break
		}
		checked += checkFall(t, b.system(), v, x.notation(), m.someValues()[6:9])
		moves := b.moves(x)
		if len(moves) == 0 {
			break
		}
		x = moves[m.IntN(len(moves))].to
	}
	return checked
}
