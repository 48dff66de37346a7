package tests

import (
	"slices"
	"testing"

	"loop.example/g00895/impl"
)

// sums is the document's example.
func sums() impl.System {
	return systemOf([]int64{0, 2, -1}, []int64{-1}, []int64{0, 1, -1, -2}, []int64{1, 0, -1, -2})
}

// systemOf returns the system of the example's signature with the given left
// and right sides in turn. The last side may be missing.
func systemOf(sides ...[]int64) impl.System {
	return impl.System{Sig: abc(), Rules: rulesOf(sides)}
}

func rulesOf(sides [][]int64) []impl.Rule {
	var rules []impl.Rule
	for pair := range slices.Chunk(sides, 2) {
		rules = append(rules, impl.Rule{L: pair[0], R: slices.Concat(pair[1:]...)})
	}
	return rules
}

// many returns the same rule so many times.
func many(size int, sides ...[]int64) impl.System {
	return impl.System{Sig: abc(), Rules: slices.Repeat(rulesOf(sides), size)}
}

// A badSystem is a system that is not valid, though most of its rules are.
type badSystem struct {
	name string
	sys  impl.System
}

// badSystems have valid rules for which each function returns something else
// than its zero value.
func badSystems() []badSystem {
	wild := func() []impl.Rule { return rulesOf([][]int64{{1, -1}, {0, -1, -1}, {0, 2, -1}, {-1}}) }
	found := []badSystem{
		{"13 rules", many(13, []int64{0, -1, 2}, []int64{0, -1, -1})},
		{"13 rules that collapse", many(13, []int64{1, -1}, []int64{-1})},
		{"many rules", many(5000, []int64{2}, []int64{2})},
		{"13 rules, the last one not valid", impl.System{Sig: abc(), Rules: append(many(12, []int64{2}, []int64{2}).Rules, impl.Rule{})}},
		{"one rule with nothing", impl.System{Sig: abc(), Rules: make([]impl.Rule, 1)}},
		{"no signature and no rules", impl.System{}},
		{"no signature", impl.System{Rules: wild()}},
	}
	for _, sig := range badSigs() {
		found = append(found, badSystem{"a bad signature", impl.System{Sig: sig, Rules: wild()}})
		found = append(found, badSystem{"a bad signature and no rules", impl.System{Sig: sig}})
		found = append(found, badSystem{"a bad signature and empty rules", impl.System{Sig: sig, Rules: []impl.Rule{}}})
	}
	for _, x := range badRules() {
		found = append(found, badSystem{x.name + ", alone", impl.System{Sig: x.sig, Rules: []impl.Rule{x.rule}}})
		for at := range 3 {
			found = append(found, badSystem{x.name + " beside valid ones", impl.System{Sig: x.sig, Rules: slices.Insert(wild(), at, x.rule)}})
		}
	}
	return found
}

// checkBadSystem checks that every function returns its zero value.
func checkBadSystem(t *testing.T, sys impl.System) {
	t.Helper()
	if impl.SystemOk(sys) || impl.LeftLinearIn(sys) || impl.CollapsingIn(sys) || impl.DuplicatingIn(sys) || impl.ConstructorSystem(sys) {
		t.Fatal(sys)
	}
	if impl.SameSystem(sys, sys) || impl.SameSystem(sys, sums()) || impl.SameSystem(sums(), sys) {
		t.Fatal(sys)
	}
	if defined, others := impl.DefinedIn(sys), impl.ConstructorsIn(sys); len(defined)+len(others) != 0 {
		t.Fatal(sys, defined, others)
	}
}

// checkSystem checks what every function says of a valid system, and P6.
func checkSystem(t *testing.T, b book) {
	t.Helper()
	sys := b.system()
	if !impl.SystemOk(sys) || !impl.SameSystem(sys, b.system()) {
		t.Fatal(sys)
	}
	if impl.LeftLinearIn(sys) != b.all(ruling.isLeftLinear) || impl.CollapsingIn(sys) != slices.ContainsFunc(b.list, ruling.isCollapsing) || impl.DuplicatingIn(sys) != slices.ContainsFunc(b.list, ruling.isDuplicating) {
		t.Fatal(sys, impl.LeftLinearIn(sys), impl.CollapsingIn(sys), impl.DuplicatingIn(sys))
	}
	defined, others := impl.DefinedIn(sys), impl.ConstructorsIn(sys)
	if !slices.Equal(defined, b.symbols(true)) || !slices.Equal(others, b.symbols(false)) || impl.ConstructorSystem(sys) != b.isFlat() {
		t.Fatal(sys, defined, others, impl.ConstructorSystem(sys))
	}
	// P6: every symbol is in exactly one of the two lists.
	both := slices.Sorted(slices.Values(slices.Concat(defined, others)))
	if !slices.Equal(both, everyPlace(int64(len(sys.Sig.Arity)))) {
		t.Fatal(sys, defined, others)
	}
}

func TestBadSystems(t *testing.T) {
	for _, x := range badSystems() {
		if impl.SystemOk(x.sys) {
			t.Error(x.name)
		}
		checkBadSystem(t, x.sys)
	}
}

func TestSystemOk(t *testing.T) {
	if impl.MaxRules != 12 {
		t.Fatal(impl.MaxRules)
	}
	for size := range 30 {
		sys := many(size, []int64{0, 2, -1}, []int64{-1})
		if impl.SystemOk(sys) != (size <= 12) || impl.SameSystem(sys, sys) != (size <= 12) || impl.CollapsingIn(sys) != (size >= 1 && size <= 12) {
			t.Error(size)
		}
	}
	for _, x := range goodRules() {
		if !impl.SystemOk(impl.System{Sig: x.sig, Rules: []impl.Rule{x.rule}}) {
			t.Error(x.name)
		}
	}
	for _, sig := range []impl.Sig{abc(), wide(), {Arity: []int64{0}}, {Arity: slices.Repeat([]int64{3}, 8)}} {
		if !impl.SystemOk(impl.System{Sig: sig}) || !impl.SystemOk(impl.System{Sig: sig, Rules: []impl.Rule{}}) {
			t.Error("no rules", sig.Arity)
		}
	}
	// One rule of twelve is not valid.
	for at := range 12 {
		for _, x := range badRules() {
			sys := impl.System{Sig: x.sig, Rules: many(12, []int64{2}, []int64{2}).Rules}
			sys.Rules[at] = x.rule
			if impl.SystemOk(sys) {
				t.Error(at, x.name)
			}
		}
	}
}

func TestExamplesOfSystems(t *testing.T) {
	sys := sums()
	if !impl.SystemOk(sys) || !impl.SameSystem(sys, sums()) || !impl.LeftLinearIn(sys) || !impl.CollapsingIn(sys) || impl.DuplicatingIn(sys) || !impl.ConstructorSystem(sys) {
		t.Error("sums")
	}
	if defined, others := impl.DefinedIn(sys), impl.ConstructorsIn(sys); !slices.Equal(defined, []int64{0}) || !slices.Equal(others, []int64{1, 2}) {
		t.Error("sums", defined, others)
	}
}

func TestSystemWithoutRules(t *testing.T) {
	for _, rules := range [][]impl.Rule{nil, {}, sums().Rules[:0]} {
		sys := impl.System{Sig: abc(), Rules: rules}
		if !impl.SystemOk(sys) || !impl.LeftLinearIn(sys) || impl.CollapsingIn(sys) || impl.DuplicatingIn(sys) || !impl.ConstructorSystem(sys) {
			t.Error(rules)
		}
		if defined, others := impl.DefinedIn(sys), impl.ConstructorsIn(sys); len(defined) != 0 || !slices.Equal(others, []int64{0, 1, 2}) {
			t.Error(rules, defined, others)
		}
		if !impl.SameSystem(sys, impl.System{Sig: abc()}) || impl.SameSystem(sys, impl.System{Sig: wide()}) || impl.SameSystem(sys, sums()) || impl.SameSystem(sums(), sys) {
			t.Error(rules)
		}
	}
}

func TestSameSystem(t *testing.T) {
	first, second := []int64{0, 2, -1}, []int64{0, 1, -1, -2}
	others := []struct {
		name string
		sys  impl.System
	}{
		{"no rules", systemOf()},
		{"the first rule", impl.System{Sig: abc(), Rules: sums().Rules[:1]}},
		{"the second rule", impl.System{Sig: abc(), Rules: sums().Rules[1:]}},
		{"the other order", impl.System{Sig: abc(), Rules: []impl.Rule{sums().Rules[1], sums().Rules[0]}}},
		{"the first rule twice", impl.System{Sig: abc(), Rules: []impl.Rule{sums().Rules[0], sums().Rules[0], sums().Rules[1]}}},
		{"the second rule twice", impl.System{Sig: abc(), Rules: append(sums().Rules, sums().Rules[1])}},
		{"a rule more", impl.System{Sig: abc(), Rules: append(sums().Rules, impl.Rule{L: []int64{2}, R: []int64{2}})}},
		{"another left side", systemOf([]int64{0, -1, 2}, []int64{-1}, second, []int64{1, 0, -1, -2})},
		{"another right side", systemOf(first, []int64{1, -1}, second, []int64{1, 0, -1, -2})},
		{"another left side of the last rule", systemOf(first, []int64{-1}, []int64{0, 1, -1, 1, -2}, []int64{1, 0, -1, -2})},
		{"another right side of the last rule", systemOf(first, []int64{-1}, second, []int64{1, 0, -2, -1})},
		{"the right sides exchanged", systemOf([]int64{0, 2, -1}, []int64{2}, second, []int64{-1})},
		{"other variables", systemOf([]int64{0, 2, -2}, []int64{-2}, second, []int64{1, 0, -1, -2})},
		{"other variables in the last rule", systemOf(first, []int64{-1}, []int64{0, 1, -2, -1}, []int64{1, 0, -2, -1})},
		// The rules are valid for these arities too.
		{"a symbol more", impl.System{Sig: impl.Sig{Arity: []int64{2, 1, 0, 0}}, Rules: sums().Rules}},
		{"five symbols more", impl.System{Sig: impl.Sig{Arity: []int64{2, 1, 0, 3, 2, 1, 0, 0}}, Rules: sums().Rules}},
	}
	for _, x := range others {
		if !impl.SystemOk(x.sys) || !impl.SameSystem(x.sys, x.sys) {
			t.Error(x.name, "is not valid")
		}
		if impl.SameSystem(sums(), x.sys) || impl.SameSystem(x.sys, sums()) {
			t.Error(x.name)
		}
	}
}

// Systems that differ in their arities only: in those of symbols that do not
// occur in the rules, or in how many there are.
func TestSameSystemOfArities(t *testing.T) {
	var sigs []impl.Sig
	for arity := range int64(4) {
		sigs = append(sigs, impl.Sig{Arity: []int64{1, arity}}, impl.Sig{Arity: []int64{1, 0, arity}}, impl.Sig{Arity: []int64{1, arity, 0}})
	}
	sigs = append(sigs, impl.Sig{Arity: []int64{1}})
	for i, a := range sigs {
		for j, b := range sigs {
			for _, rules := range [][]impl.Rule{nil, rulesOf([][]int64{{0, -1}, {-1}})} {
				one, two := impl.System{Sig: a, Rules: rules}, impl.System{Sig: b, Rules: rules}
				if impl.SameSystem(one, two) != slices.Equal(a.Arity, b.Arity) {
					t.Error(i, j, a, b, rules)
				}
			}
		}
	}
}

// A valid system is not the same as one that is not valid, whichever is first.
func TestSameSystemOfInvalidArguments(t *testing.T) {
	for _, x := range badSystems() {
		for _, sys := range []impl.System{sums(), systemOf(), many(12, []int64{2}, []int64{2}), {}, {Sig: x.sys.Sig}, x.sys} {
			if impl.SameSystem(x.sys, sys) || impl.SameSystem(sys, x.sys) {
				t.Fatal(x.name, sys)
			}
		}
	}
}

func TestSameSystemOfLists(t *testing.T) {
	books := booksOf(abc(), someRulings(), 2)
	var systems []impl.System
	for _, b := range books {
		systems = append(systems, b.system())
	}
	for i, a := range books {
		for j, b := range books {
			if impl.SameSystem(systems[i], systems[j]) != a.isSame(b) {
				t.Fatal(systems[i], systems[j])
			}
		}
	}
}

func TestLeftLinearIn(t *testing.T) {
	cases := []struct {
		sys  impl.System
		want bool
	}{
		{systemOf([]int64{0, -1, -2}, []int64{-1}), true},
		{systemOf([]int64{0, -1, -1}, []int64{-1}), false},
		{systemOf([]int64{0, -24, 0, -1, -24}, []int64{2}), false},
		{systemOf([]int64{0, 2, 2}, []int64{2}), true},
		{systemOf([]int64{2}, []int64{2}), true},
		// Only the left side counts.
		{systemOf([]int64{1, -1}, []int64{0, -1, -1}), true},
		{systemOf([]int64{0, -1, -1}, []int64{1, -1}), false},
		// A variable may be in two rules.
		{systemOf([]int64{1, -1}, []int64{-1}, []int64{0, -1, -2}, []int64{-1}), true},
		// One rule of more than one.
		{systemOf([]int64{0, -1, -1}, []int64{2}, []int64{1, -1}, []int64{2}, []int64{2}, []int64{2}), false},
		{systemOf([]int64{1, -1}, []int64{2}, []int64{0, -1, -1}, []int64{2}, []int64{2}, []int64{2}), false},
		{systemOf([]int64{1, -1}, []int64{2}, []int64{2}, []int64{2}, []int64{0, -1, -1}, []int64{2}), false},
		// Up to MaxTerm numbers and MaxVars variables.
		{systemOf(allVars(), []int64{2}), true},
		{systemOf(append(allVars()[:46], -24), []int64{2}), false},
		{systemOf(combOn(1, -24), []int64{2}), true},
	}
	for _, c := range cases {
		if !impl.SystemOk(c.sys) || impl.LeftLinearIn(c.sys) != c.want {
			t.Error(c.sys, c.want)
		}
	}
}

func TestCollapsingIn(t *testing.T) {
	cases := []struct {
		sys  impl.System
		want bool
	}{
		{systemOf([]int64{1, -1}, []int64{-1}), true},
		{systemOf([]int64{0, -1, -24}, []int64{-24}), true},
		{systemOf([]int64{1, -1}, []int64{1, -1}), false},
		{systemOf([]int64{1, -1}, []int64{2}), false},
		{systemOf([]int64{0, -1, -1}, []int64{0, -1, 1, -1}), false},
		{systemOf([]int64{2}, []int64{2}), false},
		// One rule of more than one.
		{systemOf([]int64{1, -1}, []int64{-1}, []int64{2}, []int64{2}, []int64{1, 2}, []int64{2}), true},
		{systemOf([]int64{2}, []int64{2}, []int64{1, -1}, []int64{-1}, []int64{1, 2}, []int64{2}), true},
		{systemOf([]int64{2}, []int64{2}, []int64{1, 2}, []int64{2}, []int64{1, -1}, []int64{-1}), true},
		{systemOf(nested(60), nested(60)), false},
		{systemOf(combOn(1, -24), []int64{-24}), true},
	}
	for _, c := range cases {
		if !impl.SystemOk(c.sys) || impl.CollapsingIn(c.sys) != c.want {
			t.Error(c.sys, c.want)
		}
	}
}

func TestDuplicatingIn(t *testing.T) {
	cases := []struct {
		sys  impl.System
		want bool
	}{
		{systemOf([]int64{1, -1}, []int64{0, -1, -1}), true},
		{systemOf([]int64{1, -1}, []int64{1, -1}), false},
		{systemOf([]int64{0, -1, -1}, []int64{0, -1, -1}), false},
		{systemOf([]int64{0, -1, -1}, []int64{-1}), false},
		{systemOf([]int64{0, -1, -1}, []int64{0, -1, 0, -1, -1}), true},
		// Both sides have as many variables.
		{systemOf([]int64{0, -1, -2}, []int64{0, -1, -1}), true},
		{systemOf([]int64{0, -1, -2}, []int64{0, -2, -2}), true},
		{systemOf([]int64{0, -1, -2}, []int64{0, -2, -1}), false},
		{systemOf([]int64{0, -1, 0, -1, -2}, []int64{0, -1, 0, -2, -2}), true},
		// The left side has more variables than the right side.
		{systemOf([]int64{0, 0, -1, -1, 0, -1, -2}, []int64{0, -2, -2}), true},
		// Symbols may be more often in the right side.
		{systemOf([]int64{1, -1}, []int64{1, 1, 1, -1}), false},
		{systemOf([]int64{2}, []int64{0, 2, 2}), false},
		{systemOf([]int64{0, -1, -2}, []int64{0, 2, 0, 2, 0, -2, 0, 1, -1, 2}), false},
		// A variable is another one in another rule.
		{systemOf([]int64{0, -1, -1}, []int64{2}, []int64{1, -1}, []int64{1, -1}), false},
		{systemOf([]int64{0, -1, -1}, []int64{2}, []int64{1, -1}, []int64{0, -1, -1}), true},
		// One rule of more than one.
		{systemOf([]int64{1, -1}, []int64{0, -1, -1}, []int64{2}, []int64{2}, []int64{1, -1}, []int64{-1}), true},
		{systemOf([]int64{2}, []int64{2}, []int64{1, -1}, []int64{0, -1, -1}, []int64{1, -1}, []int64{-1}), true},
		{systemOf([]int64{2}, []int64{2}, []int64{1, -1}, []int64{-1}, []int64{1, -1}, []int64{0, -1, -1}), true},
		// Up to MaxTerm numbers and MaxVars variables.
		{systemOf(allVars(), impl.Renamed(abc(), allVars())), false},
		{systemOf(allVars(), append(allVars()[:46], -24)), true},
		{systemOf(combOn(1, -24), twice(append(nested(29)[:28], -24))), true},
	}
	for _, c := range cases {
		if !impl.SystemOk(c.sys) || impl.DuplicatingIn(c.sys) != c.want {
			t.Error(c.sys, c.want)
		}
	}
}

func TestDefinedSymbols(t *testing.T) {
	cases := []struct {
		sys             impl.System
		defined, others []int64
		isFlat          bool
	}{
		{systemOf([]int64{1, 2}, []int64{2}), []int64{1}, []int64{0, 2}, true},
		{systemOf([]int64{2}, []int64{1, 2}), []int64{2}, []int64{0, 1}, true},
		// A symbol at two heads, and heads that are not in ascending order.
		{systemOf([]int64{1, 2}, []int64{2}, []int64{1, -1}, []int64{2}), []int64{1}, []int64{0, 2}, true},
		{systemOf([]int64{1, -1}, []int64{-1}, []int64{0, -1, 2}, []int64{2}), []int64{0, 1}, []int64{2}, true},
		{systemOf([]int64{2}, []int64{2}, []int64{0, -1, -2}, []int64{-1}, []int64{2}, []int64{1, 2}), []int64{0, 2}, []int64{1}, true},
		// All symbols are defined.
		{systemOf([]int64{2}, []int64{2}, []int64{1, -1}, []int64{-1}, []int64{0, -1, -2}, []int64{-1}), []int64{0, 1, 2}, nil, true},
		{systemOf([]int64{0, 1, -1, -2}, []int64{-1}, []int64{1, 2}, []int64{2}, []int64{2}, []int64{2}), []int64{0, 1, 2}, nil, false},
		// A defined symbol below a head: the same one, one of an earlier and one
		// of a later rule, at the end.
		{systemOf([]int64{0, 0, -1, -2, -3}, []int64{-1}), []int64{0}, []int64{1, 2}, false},
		{systemOf([]int64{1, 1, -1}, []int64{-1}), []int64{1}, []int64{0, 2}, false},
		{systemOf([]int64{1, -1}, []int64{-1}, []int64{0, 1, -1, 2}, []int64{2}), []int64{0, 1}, []int64{2}, false},
		{systemOf([]int64{0, 1, -1, 2}, []int64{2}, []int64{1, -1}, []int64{-1}), []int64{0, 1}, []int64{2}, false},
		{systemOf([]int64{0, 1, -1, 2}, []int64{2}, []int64{2}, []int64{1, 2}), []int64{0, 2}, []int64{1}, false},
		{systemOf(nested(60), []int64{1, 2}), []int64{1}, []int64{0, 2}, false},
		{systemOf([]int64{2}, []int64{1, 2}, nested(60), []int64{2}), []int64{1, 2}, []int64{0}, false},
		// Symbols of right sides do not count.
		{systemOf([]int64{0, 2, -1}, []int64{0, 0, -1, 1, -1, 1, 2}), []int64{0}, []int64{1, 2}, true},
		{systemOf([]int64{1, -1}, []int64{1, 1, 0, -1, 2}), []int64{1}, []int64{0, 2}, true},
		// Variables are no symbols.
		{systemOf([]int64{0, -1, -24}, []int64{-1}), []int64{0}, []int64{1, 2}, true},
		{systemOf(comb(59), []int64{2}), []int64{0}, []int64{1, 2}, false},
		// The first and the last one of eight symbols.
		{impl.System{Sig: wide(), Rules: rulesOf([][]int64{{7, -1, -2, 0}, {6, -1}})}, []int64{7}, []int64{0, 1, 2, 3, 4, 5, 6}, true},
		{impl.System{Sig: wide(), Rules: rulesOf([][]int64{{7, -1, -2, 0}, {6, -1}, {0}, {3}})}, []int64{0, 7}, []int64{1, 2, 3, 4, 5, 6}, false},
		{impl.System{Sig: wide(), Rules: rulesOf([][]int64{{7, -1, -2, 3}, {6, -1}, {0}, {3}, {6, 5}, {5}})}, []int64{0, 6, 7}, []int64{1, 2, 3, 4, 5}, true},
		{impl.System{Sig: impl.Sig{Arity: []int64{0}}, Rules: rulesOf([][]int64{{0}, {0}})}, []int64{0}, nil, true},
	}
	for _, c := range cases {
		if got := impl.DefinedIn(c.sys); !impl.SystemOk(c.sys) || !slices.Equal(got, c.defined) {
			t.Error(c.sys, "defines", got)
		}
		if got := impl.ConstructorsIn(c.sys); !slices.Equal(got, c.others) {
			t.Error(c.sys, "constructs by", got)
		}
		if impl.ConstructorSystem(c.sys) != c.isFlat {
			t.Error(c.sys, c.isFlat)
		}
	}
}

func TestSystemsOfLists(t *testing.T) {
	for _, b := range booksOf(abc(), someRulings(), 3) {
		checkSystem(t, b)
	}
}

// Every one of eight symbols, and each two of them, at the heads of rules.
func TestHeadsOfWideSystems(t *testing.T) {
	sig := impl.Sig{Arity: []int64{3, 0, 2, 1, 0, 3, 2, 1}}
	side := func(head int64) tree {
		return tree{head: head, args: several(int(sig.Arity[head]), variable)}
	}
	for _, heads := range lists(8, 3) {
		b := book{sig: sig}
		for _, n := range heads {
			b.list = append(b.list, ruling{side(int64(n)), side(int64(1))})
		}
		checkSystem(t, b)
	}
}

func TestLongSystems(t *testing.T) {
	m, sizes := makerOf(7), map[int]int{}
	seen := map[string]int{}
	for range 3000 {
		b := m.book()
		checkSystem(t, b)
		sizes[len(b.list)]++
		for name, is := range map[string]bool{"left-linear": b.all(ruling.isLeftLinear), "collapsing": slices.ContainsFunc(b.list, ruling.isCollapsing), "duplicating": slices.ContainsFunc(b.list, ruling.isDuplicating), "flat": b.isFlat()} {
			if is {
				seen[name]++
			}
		}
	}
	for name, count := range seen {
		if count < 100 || count > 2900 {
			t.Error("too few of the systems test much", name, count)
		}
	}
	if len(seen) != 4 || len(sizes) != impl.MaxRules+1 {
		t.Error(seen, sizes)
	}
}
