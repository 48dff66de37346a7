package tests

import (
	"slices"
	"testing"

	"loop.example/g00895/impl"
)

func equalRules(a, b impl.Rule) bool { return slices.Equal(a.L, b.L) && slices.Equal(a.R, b.R) }

// A signedRule is a rule, valid or not, and the signature that it is for.
type signedRule struct {
	name string
	sig  impl.Sig
	rule impl.Rule
}

func goodRules() []signedRule {
	return []signedRule{
		{"the first one of sums", abc(), impl.Rule{L: []int64{0, 2, -1}, R: []int64{-1}}},
		{"the second one of sums", abc(), impl.Rule{L: []int64{0, 1, -1, -2}, R: []int64{1, 0, -1, -2}}},
		{"no variables", abc(), impl.Rule{L: []int64{1, 2}, R: []int64{2}}},
		{"a constant on the left", abc(), impl.Rule{L: []int64{2}, R: []int64{1, 2}}},
		{"two equal sides", abc(), impl.Rule{L: []int64{2}, R: []int64{2}}},
		{"variables on the left only", abc(), impl.Rule{L: []int64{0, -1, -24}, R: []int64{2}}},
		{"one variable on the right", abc(), impl.Rule{L: []int64{0, -1, -24}, R: []int64{-24}}},
		{"a variable more often on the right", abc(), impl.Rule{L: []int64{1, -24}, R: []int64{0, -24, -24}}},
		{"a variable more often on the left", abc(), impl.Rule{L: []int64{0, -5, -5}, R: []int64{-5}}},
		{"the variables in another order", abc(), impl.Rule{L: []int64{0, -1, -2}, R: []int64{0, -2, -1}}},
		{"all variables", abc(), impl.Rule{L: allVars(), R: impl.Renamed(abc(), allVars())}},
		{"60 elements on the left", abc(), impl.Rule{L: nested(60), R: []int64{2}}},
		{"60 elements on the right", abc(), impl.Rule{L: []int64{2}, R: nested(60)}},
		{"60 elements with a variable", abc(), impl.Rule{L: combOn(1, -24), R: append(nested(60)[:59], -24)}},
		{"58 elements, wide", wide(), impl.Rule{L: []int64{7, -1, -2, -3}, R: append(wideTerm(58)[:57], -3)}},
		{"one symbol", impl.Sig{Arity: []int64{3}}, impl.Rule{L: []int64{0, -1, -1, -2}, R: []int64{0, -2, -2, -2}}},
	}
}

func badRules() []signedRule {
	found := []signedRule{
		{"a variable on the left", abc(), impl.Rule{L: []int64{-1}, R: []int64{-1}}},
		{"a variable on the left, no variable on the right", abc(), impl.Rule{L: []int64{-1}, R: []int64{2}}},
		{"the last variable on the left", abc(), impl.Rule{L: []int64{-24}, R: []int64{1, -24}}},
		{"another variable on each side", abc(), impl.Rule{L: []int64{-1}, R: []int64{-2}}},
		{"a new variable on the right", abc(), impl.Rule{L: []int64{1, -1}, R: []int64{-2}}},
		{"a new variable of no variables", abc(), impl.Rule{L: []int64{2}, R: []int64{-1}}},
		{"a new variable in front of known ones", abc(), impl.Rule{L: []int64{0, -1, -2}, R: []int64{0, -3, 0, -1, -2}}},
		{"a new variable behind known ones", abc(), impl.Rule{L: []int64{0, -1, -3}, R: []int64{0, -1, 0, -3, -2}}},
		{"the last variable is new", abc(), impl.Rule{L: append(allVars()[2:46], 2), R: []int64{-24}}},
		{"the first variable is new", abc(), impl.Rule{L: append(allVars()[:46], 2), R: []int64{0, -2, -1}}},
		{"a new variable at the end of 60 elements", abc(), impl.Rule{L: combOn(1, -1), R: append(nested(60)[:59], -2)}},
		{"nothing on the right", abc(), impl.Rule{L: []int64{2}}},
		{"nothing on the left", abc(), impl.Rule{R: []int64{2}}},
		{"nothing", abc(), impl.Rule{}},
		{"empty sides", abc(), impl.Rule{L: []int64{}, R: []int64{}}},
		{"an unknown variable on both sides", abc(), impl.Rule{L: []int64{1, -25}, R: []int64{-25}}},
	}
	for _, x := range noTerms() {
		found = append(found, signedRule{x.name + " on the left", x.sig, impl.Rule{L: x.nums, R: []int64{2}}})
		found = append(found, signedRule{x.name + " on the right", x.sig, impl.Rule{L: []int64{0, 2, -1}, R: x.nums}})
		found = append(found, signedRule{x.name + " on both sides", x.sig, impl.Rule{L: x.nums, R: x.nums}})
	}
	for _, sig := range badSigs() {
		found = append(found, signedRule{"no signature, a constant", sig, impl.Rule{L: []int64{0}, R: []int64{0}}})
	}
	return found
}

func TestRuleOk(t *testing.T) {
	for _, x := range goodRules() {
		if !impl.RuleOk(x.sig, x.rule) {
			t.Error(x.name, x.rule)
		}
	}
	for _, x := range badRules() {
		if impl.RuleOk(x.sig, x.rule) {
			t.Error(x.name, x.sig.Arity, x.rule)
		}
	}
	for size := 1; size <= 130; size++ {
		one, two := impl.Rule{L: nested(size), R: []int64{2}}, impl.Rule{L: []int64{2}, R: nested(size)}
		if impl.RuleOk(abc(), one) != (size <= 60) || impl.RuleOk(abc(), two) != (size <= 60) {
			t.Error(size)
		}
	}
	// Every variable on the right is compared with every one on the left.
	for i := range int64(impl.MaxVars) {
		for j := range int64(impl.MaxVars) {
			r := impl.Rule{L: []int64{1, -1 - i}, R: []int64{0, 2, -1 - j}}
			if impl.RuleOk(abc(), r) != (i == j) {
				t.Error(r)
			}
		}
	}
}

// Which rules are valid depends on the signature.
func TestRuleOkForSignatures(t *testing.T) {
	r := impl.Rule{L: []int64{1, -1}, R: []int64{2, -1, 0}}
	for first := range int64(4) {
		for second := range int64(4) {
			for third := range int64(4) {
				sig := impl.Sig{Arity: []int64{first, second, third}}
				if impl.RuleOk(sig, r) != (first == 0 && second == 1 && third == 2) {
					t.Error(sig.Arity)
				}
			}
		}
	}
	if impl.RuleOk(impl.Sig{Arity: []int64{0, 1}}, r) || !impl.RuleOk(impl.Sig{Arity: []int64{0, 1, 2, 3}}, r) {
		t.Error("the number of symbols")
	}
}

func TestRuleOkOfSmallTerms(t *testing.T) {
	list := smallTrees([]int64{-1, -2, -24}, 4)
	valid := 0
	for _, l := range list {
		for _, r := range list {
			x := ruling{l, r}
			if impl.RuleOk(abc(), x.rule()) != x.isRule() {
				t.Fatal(x.rule())
			}
			checkRenamedRule(t, abc(), x)
			if x.isRule() {
				valid++
				checkSystem(t, book{abc(), []ruling{x}})
			} else {
				checkBadSystem(t, impl.System{Sig: abc(), Rules: []impl.Rule{x.rule()}})
			}
		}
	}
	if valid < 500 {
		t.Fatal("too few of the pairs are rules", valid)
	}
}

func TestRenamedRule(t *testing.T) {
	cases := []struct {
		sig     impl.Sig
		r, want impl.Rule
	}{
		{abc(), impl.Rule{L: []int64{0, -5, 0, -2, -5}, R: []int64{0, -2, -5}}, impl.Rule{L: []int64{0, -1, 0, -2, -1}, R: []int64{0, -2, -1}}},
		// The left side gives the order, also if the right side has another one.
		{abc(), impl.Rule{L: []int64{0, -1, -2}, R: []int64{0, -2, -1}}, impl.Rule{L: []int64{0, -1, -2}, R: []int64{0, -2, -1}}},
		{abc(), impl.Rule{L: []int64{0, -2, -1}, R: []int64{0, -1, -2}}, impl.Rule{L: []int64{0, -1, -2}, R: []int64{0, -2, -1}}},
		{abc(), impl.Rule{L: []int64{0, -24, 0, -1, -3}, R: []int64{0, -1, 0, -3, -24}}, impl.Rule{L: []int64{0, -1, 0, -2, -3}, R: []int64{0, -2, 0, -3, -1}}},
		// The right side lacks variables.
		{abc(), impl.Rule{L: []int64{0, -24, -7}, R: []int64{-7}}, impl.Rule{L: []int64{0, -1, -2}, R: []int64{-2}}},
		{abc(), impl.Rule{L: []int64{0, -24, -7}, R: []int64{2}}, impl.Rule{L: []int64{0, -1, -2}, R: []int64{2}}},
		{abc(), impl.Rule{L: []int64{0, 1, -3, -3}, R: []int64{0, -3, 1, -3}}, impl.Rule{L: []int64{0, 1, -1, -1}, R: []int64{0, -1, 1, -1}}},
		// No variables.
		{abc(), impl.Rule{L: []int64{1, 2}, R: []int64{2}}, impl.Rule{L: []int64{1, 2}, R: []int64{2}}},
		{abc(), impl.Rule{L: nested(60), R: nested(60)}, impl.Rule{L: nested(60), R: nested(60)}},
		// All variables.
		{abc(), impl.Rule{L: allVars(), R: []int64{0, -1, -24}}, impl.Rule{L: impl.Renamed(abc(), allVars()), R: []int64{0, -24, -1}}},
		{abc(), impl.Rule{L: allVars(), R: impl.Renamed(abc(), allVars())}, impl.Rule{L: impl.Renamed(abc(), allVars()), R: allVars()}},
		{abc(), impl.Rule{L: combOn(1, -24), R: append(nested(60)[:59], -24)}, impl.Rule{L: combOn(1, -1), R: append(nested(60)[:59], -1)}},
		{wide(), impl.Rule{L: []int64{7, -9, 3, -4}, R: append(wideTerm(58)[:57], -4)}, impl.Rule{L: []int64{7, -1, 3, -2}, R: append(wideTerm(58)[:57], -2)}},
	}
	for _, c := range cases {
		if got := impl.RenamedRule(c.sig, c.r); !equalRules(got, c.want) {
			t.Error(c.r, got)
		}
	}
	for _, x := range badRules() {
		if got := impl.RenamedRule(x.sig, x.rule); len(got.L)+len(got.R) != 0 {
			t.Error(x.name, x.sig.Arity, x.rule, got)
		}
	}
}

func TestRenamedRuleOfLongTerms(t *testing.T) {
	m := makerOf(6)
	for range 2000 {
		b := m.book()
		for _, x := range b.list {
			checkRenamedRule(t, b.sig, x)
		}
	}
}

// checkRenamedRule checks that RenamedRule renumbers the variables of a rule,
// and returns nothing for two trees that are none.
func checkRenamedRule(t *testing.T, sig impl.Sig, x ruling) {
	t.Helper()
	r := x.rule()
	got := impl.RenamedRule(sig, r)
	if !x.isRule() {
		if len(got.L)+len(got.R) != 0 {
			t.Fatal(r, got)
		}
		return
	}
	if !equalRules(got, x.renamed().rule()) || !impl.RuleOk(sig, got) || !slices.Equal(got.L, impl.Renamed(sig, r.L)) {
		t.Fatal(r, got)
	}
	if again := impl.RenamedRule(sig, got); !equalRules(again, got) {
		t.Fatal(r, got, again)
	}
	// One substitution turns both sides back.
	s, is := impl.Matched(sig, got.L, r.L)
	if back, done := impl.Filled(sig, s, got.R); !is || !done || !slices.Equal(back, r.R) {
		t.Fatal(r, got, back)
	}
}
