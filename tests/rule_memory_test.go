package tests

import (
	"slices"
	"testing"

	"loop.example/g00895/impl"
)

// A systemGuard is a system with room behind each of its slices. It notices a
// write to any of them.
type systemGuard struct {
	sys    impl.System
	nums   []guard
	before []impl.Rule
}

func systemGuardOf(sys impl.System) systemGuard {
	arity := guardOf(sys.Sig.Arity)
	g := systemGuard{nums: []guard{arity}}
	for _, r := range append(slices.Clone(sys.Rules), sums().Rules...) {
		l, r := guardOf(r.L), guardOf(r.R)
		g.nums = append(g.nums, l, r)
		g.before = append(g.before, impl.Rule{L: l.nums, R: r.nums})
	}
	whole := slices.Clip(slices.Clone(g.before))
	g.sys = impl.System{Sig: impl.Sig{Arity: arity.nums}, Rules: whole[:len(sys.Rules)]}
	return g
}

func (g systemGuard) touched() bool {
	isOne := func(a, b impl.Rule) bool { return isOneSlice(a.L, b.L) && isOneSlice(a.R, b.R) }
	return slices.ContainsFunc(g.nums, guard.touched) || !slices.EqualFunc(g.sys.Rules[:len(g.before)], g.before, isOne)
}

// A systemCall is a function of the document on systems. A slice that it
// returns is given as the only element of a substitution.
type systemCall struct {
	name string
	run  func(sys, other impl.System) impl.Subst
}

func systemCalls() []systemCall {
	ask := func(f func(impl.System) bool) func(sys, other impl.System) impl.Subst {
		return func(sys, other impl.System) impl.Subst { f(sys); return impl.Subst{} }
	}
	list := func(f func(impl.System) []int64) func(sys, other impl.System) impl.Subst {
		return func(sys, other impl.System) impl.Subst { return substOf(f(sys)) }
	}
	return []systemCall{
		{"SystemOk", ask(impl.SystemOk)},
		{"SameSystem", func(sys, other impl.System) impl.Subst { impl.SameSystem(sys, other); return impl.Subst{} }},
		{"LeftLinearIn", ask(impl.LeftLinearIn)},
		{"CollapsingIn", ask(impl.CollapsingIn)},
		{"DuplicatingIn", ask(impl.DuplicatingIn)},
		{"DefinedIn", list(impl.DefinedIn)},
		{"ConstructorsIn", list(impl.ConstructorsIn)},
		{"ConstructorSystem", ask(impl.ConstructorSystem)},
	}
}

// ruleCalls are the functions of the chapter on the arguments of a termsCall:
// the two terms are the sides of a rule, and those of the list are the sides of
// the rules of a system.
func ruleCalls() []termsCall {
	found := []termsCall{
		{"RuleOk", func(x termsArgs) impl.Subst { impl.RuleOk(x.sig, impl.Rule{L: x.a, R: x.b}); return impl.Subst{} }},
		{"RenamedRule", func(x termsArgs) impl.Subst {
			r := impl.RenamedRule(x.sig, impl.Rule{L: x.a, R: x.b})
			return substOf(r.L, r.R)
		}},
	}
	for _, c := range systemCalls() {
		found = append(found, termsCall{c.name, func(x termsArgs) impl.Subst {
			one := []impl.Rule{{L: x.a, R: x.b}}
			return c.run(impl.System{Sig: x.sig, Rules: pairsOf(x.ts)}, impl.System{Sig: x.sig, Rules: one})
		}})
	}
	return found
}

// pairsOf returns the rules whose sides are these slices themselves.
func pairsOf(ts [][]int64) []impl.Rule {
	var rules []impl.Rule
	for ; len(ts) >= 2; ts = ts[2:] {
		rules = append(rules, impl.Rule{L: ts[0], R: ts[1]})
	}
	return rules
}

// someSystems are valid and not valid, with up to 13 rules.
func someSystems() []impl.System {
	found := []impl.System{{}, {Sig: abc()}, sums(), many(12, []int64{2}, []int64{2}), systemOf(allVars(), big()), systemOf(combOn(1, -24), comb(59))}
	for i, b := range booksOf(abc(), someRulings(), 2) {
		if i%5 == 0 {
			found = append(found, b.system())
		}
	}
	m := makerOf(8)
	for range 20 {
		found = append(found, m.book().system())
	}
	for _, x := range badSystems() {
		if len(x.sys.Rules) <= 13 {
			found = append(found, x.sys)
		}
	}
	return found
}

func ruleSamples() []termsArgs {
	var found []termsArgs
	for i, sys := range someSystems() {
		x := termsArgs{sig: sys.Sig}
		for _, r := range sys.Rules {
			x.ts = append(x.ts, r.L, r.R)
		}
		if len(sys.Rules) > 0 {
			r := sys.Rules[i%len(sys.Rules)]
			x.a, x.b = r.L, r.R
		}
		found = append(found, x)
	}
	for _, x := range goodRules() {
		found = append(found, termsArgs{x.sig, x.rule.L, x.rule.R, [][]int64{x.rule.L, x.rule.R}})
	}
	for _, x := range badRules() {
		found = append(found, termsArgs{x.sig, x.rule.L, x.rule.R, nil})
	}
	return found
}

func TestRuleArgumentsAreNotModified(t *testing.T) {
	checkArgumentsAreKept(t, ruleCalls(), ruleSamples())
}

func TestRuleArgumentsOfOneSlice(t *testing.T) { checkArgumentsOfOneSlice(t, ruleCalls()) }

func TestRuleResultsAreNew(t *testing.T) { checkResultsAreNew(t, ruleCalls(), ruleSamples()) }

// Both sides of a rule may be the same slice, or one a part of the other.
func TestSidesOfARenamedRuleAreApart(t *testing.T) {
	samples := ruleSamples()
	for _, nums := range [][]int64{{0, -5, 0, -2, -5}, allVars(), nested(60), {2}} {
		samples = append(samples, termsArgs{sig: abc(), a: nums, b: nums}, termsArgs{sig: abc(), a: nums, b: impl.SubAt(abc(), nums, 0)})
		samples = append(samples, termsArgs{sig: abc(), a: nums, b: nums[len(nums)-1:]})
	}
	checkElementsAreApart(t, ruleCalls()[1:2], samples)
}

// The list of the rules is not modified either, nor what is behind its length.
func TestSystemsAreNotModified(t *testing.T) {
	systems := someSystems()
	for _, c := range systemCalls() {
		for i, sys := range systems {
			one, two := systemGuardOf(sys), systemGuardOf(systems[(i+1)%len(systems)])
			results := []impl.Subst{c.run(one.sys, two.sys), c.run(two.sys, one.sys), c.run(one.sys, one.sys)}
			if one.touched() || two.touched() {
				t.Fatalf("%s modifies an argument: %v", c.name, sys)
			}
			for _, result := range results {
				overwriteSubst(result)
			}
			if one.touched() || two.touched() {
				t.Fatalf("the result of %s shares memory with an argument: %v", c.name, sys)
			}
		}
	}
}

// What is behind the length of a slice is no part of it.
func TestRulesBehindTheLengthDoNotCount(t *testing.T) {
	for _, x := range badRules() {
		rules := append(sums().Rules, x.rule, x.rule)[:2]
		sys := impl.System{Sig: impl.Sig{Arity: []int64{2, 1, 0, -1, 4}[:3]}, Rules: rules}
		if !impl.SystemOk(sys) || !impl.SameSystem(sys, sums()) || !impl.LeftLinearIn(sys) || impl.DuplicatingIn(sys) || !impl.ConstructorSystem(sys) || !slices.Equal(impl.DefinedIn(sys), []int64{0}) {
			t.Fatal(x.name)
		}
	}
}

// A result that was kept for the memory of an argument would be wrong for what
// that memory holds later.
func TestRuleResultsFollowTheContents(t *testing.T) {
	sys := sums()
	if defined, others := impl.DefinedIn(sys), impl.ConstructorsIn(sys); !slices.Equal(defined, []int64{0}) || !slices.Equal(others, []int64{1, 2}) || !impl.ConstructorSystem(sys) {
		t.Fatal("sums", defined, others)
	}
	copy(sys.Rules[0].L, []int64{0, -1, -1})
	if impl.LeftLinearIn(sys) || !impl.CollapsingIn(sys) || impl.DuplicatingIn(sys) || impl.SameSystem(sys, sums()) {
		t.Fatal("f0(x0,x0) -> x0")
	}
	if got := impl.RenamedRule(sys.Sig, sys.Rules[0]); !equalRules(got, sys.Rules[0]) {
		t.Fatal("f0(x0,x0) -> x0", got)
	}
	sys.Rules[0].L[2] = -2
	sys.Rules[0].R[0] = -2
	if !impl.LeftLinearIn(sys) || !impl.CollapsingIn(sys) || !impl.RuleOk(sys.Sig, sys.Rules[0]) {
		t.Fatal("f0(x0,x1) -> x1")
	}
	sys.Rules[0] = impl.Rule{L: []int64{1, 2}, R: []int64{2}}
	if defined, others := impl.DefinedIn(sys), impl.ConstructorsIn(sys); impl.CollapsingIn(sys) || !slices.Equal(defined, []int64{0, 1}) || !slices.Equal(others, []int64{2}) || impl.ConstructorSystem(sys) {
		t.Fatal("f1(f2) -> f2", defined, others)
	}
	copy(sys.Rules[1].R, []int64{0, -1, -1, -1})
	if impl.SystemOk(sys) || len(impl.DefinedIn(sys))+len(impl.ConstructorsIn(sys)) != 0 {
		t.Fatal("f0 with three arguments")
	}
	sys.Rules[1].R = sys.Rules[1].R[:3]
	if !impl.SystemOk(sys) || !impl.DuplicatingIn(sys) {
		t.Fatal("f0(x0,x0)")
	}
	sys.Sig.Arity[2] = 1
	if impl.SystemOk(sys) || impl.DuplicatingIn(sys) || impl.RuleOk(sys.Sig, sys.Rules[0]) || len(impl.RenamedRule(sys.Sig, sys.Rules[0]).L) != 0 {
		t.Fatal("f2 without its argument")
	}
}
