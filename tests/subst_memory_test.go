package tests

import (
	"slices"
	"testing"

	"loop.example/g00895/impl"
)

// A substGuard is a substitution with room behind each of its slices. It
// notices a write to any of them.
type substGuard struct {
	s      impl.Subst
	terms  []guard
	before [][]int64
}

func substGuardOf(s impl.Subst) substGuard {
	g := substGuard{}
	for _, nums := range s.Terms {
		g.terms = append(g.terms, guardOf(nums))
	}
	for range 3 {
		g.terms = append(g.terms, guardOf([]int64{1, 2}))
	}
	var whole [][]int64
	for _, term := range g.terms {
		whole = append(whole, term.nums)
	}
	whole = slices.Clip(whole)
	g.s, g.before = substOf(whole[:len(s.Terms)]...), slices.Clone(whole)
	return g
}

func (g substGuard) touched() bool {
	whole := g.s.Terms[:len(g.before)]
	for i, term := range g.terms {
		if term.touched() || !isOneSlice(whole[i], g.before[i]) {
			return true
		}
	}
	return false
}

// isOneSlice reports whether a and b are the same memory.
func isOneSlice(a, b []int64) bool {
	return len(a) == len(b) && (len(a) == 0 || &a[0] == &b[0])
}

func cloneOf(s impl.Subst) impl.Subst {
	clone := substOf()
	for _, nums := range s.Terms {
		clone.Terms = append(clone.Terms, slices.Clone(nums))
	}
	return clone
}

// overwriteSubst changes all the memory that a result reaches.
func overwriteSubst(result impl.Subst) {
	whole := result.Terms[:cap(result.Terms)]
	for i := range whole {
		overwrite(whole[i])
		whole[i] = []int64{-8888}
	}
}

// A substCall is a function of chapter 2 on the arguments that the tests vary.
// A slice that it returns is given as the only element of a substitution.
type substCall struct {
	name string
	run  func(a substArgs) impl.Subst
}

// The arguments of a substCall, valid or not.
type substArgs struct {
	sig  impl.Sig
	s, u impl.Subst
	t, v []int64
	k    int64
}

func substCalls() []substCall {
	return []substCall{
		{"SubstOk", func(a substArgs) impl.Subst { impl.SubstOk(a.sig, a.s); return impl.Subst{} }},
		{"PlainOf", func(a substArgs) impl.Subst { return impl.PlainOf(a.sig, a.s) }},
		{"SameSubst", func(a substArgs) impl.Subst { impl.SameSubst(a.sig, a.s, a.u); return impl.Subst{} }},
		{"VarsOf", func(a substArgs) impl.Subst { return substOf(impl.VarsOf(a.sig, a.t)) }},
		{"GroundIn", func(a substArgs) impl.Subst { impl.GroundIn(a.sig, a.t); return impl.Subst{} }},
		{"LinearIn", func(a substArgs) impl.Subst { impl.LinearIn(a.sig, a.t); return impl.Subst{} }},
		{"Filled", func(a substArgs) impl.Subst { x, _ := impl.Filled(a.sig, a.s, a.t); return substOf(x) }},
		{"Composed", func(a substArgs) impl.Subst { c, _ := impl.Composed(a.sig, a.s, a.u); return c }},
		{"Shifted", func(a substArgs) impl.Subst { x, _ := impl.Shifted(a.sig, a.t, a.k); return substOf(x) }},
		{"Renamed", func(a substArgs) impl.Subst { return substOf(impl.Renamed(a.sig, a.t)) }},
		{"VariantIn", func(a substArgs) impl.Subst { impl.VariantIn(a.sig, a.t, a.v); return impl.Subst{} }},
	}
}

func substSamples() []substArgs {
	good := []impl.Subst{{}, mixed(), substOf([]int64{-2}, []int64{-1}), substOf(nil, nil), full([]int64{1, -24}), full(nested(60)), only(23, []int64{2}), substOf([]int64{-1}, []int64{0, -1, -3})}
	terms := append(someTerms(), []int64{0, -1, 0, -3, -2})
	var found []substArgs
	for _, s := range good {
		for _, u := range good {
			for i, nums := range terms {
				found = append(found, substArgs{abc(), s, u, nums, terms[(i+1)%len(terms)], int64(i)})
			}
		}
	}
	for _, x := range badSubsts() {
		found = append(found, substArgs{x.sig, x.s, mixed(), big(), big(), 0}, substArgs{x.sig, mixed(), x.s, big(), big(), 24})
	}
	for _, x := range noTerms() {
		found = append(found, substArgs{x.sig, mixed(), mixed(), x.nums, big(), 1}, substArgs{x.sig, mixed(), mixed(), big(), x.nums, 25})
	}
	return append(found, substArgs{t: nil, k: -1})
}

func TestSubstArgumentsAreNotModified(t *testing.T) {
	for _, c := range substCalls() {
		for i, x := range substSamples() {
			arity, term, other := guardOf(x.sig.Arity), guardOf(x.t), guardOf(x.v)
			s, u := substGuardOf(x.s), substGuardOf(x.u)
			touched := func() bool {
				return arity.touched() || term.touched() || other.touched() || s.touched() || u.touched()
			}
			result := c.run(substArgs{impl.Sig{Arity: arity.nums}, s.s, u.s, term.nums, other.nums, x.k})
			if touched() {
				t.Fatalf("%s modifies an argument: sample %d", c.name, i)
			}
			overwriteSubst(result)
			if touched() {
				t.Fatalf("the result of %s shares memory with an argument: sample %d", c.name, i)
			}
		}
	}
}

func TestSubstResultsAreNew(t *testing.T) {
	for _, c := range substCalls() {
		for i, x := range substSamples() {
			first := c.run(x)
			kept := cloneOf(first)
			overwriteSubst(c.run(x))
			if !equalTerms(first.Terms, kept.Terms) {
				t.Fatalf("two results of %s share memory: sample %d", c.name, i)
			}
			overwriteSubst(first)
			if third := c.run(x); !equalTerms(third.Terms, kept.Terms) {
				t.Fatalf("a result of %s was kept: sample %d: %v, then %v", c.name, i, kept, third)
			}
		}
	}
}

// The arguments of some samples hold one slice in many elements, which the
// elements of a result must not.
func TestSlicesOfAResultAreApart(t *testing.T) {
	for _, c := range substCalls() {
		for i, x := range substSamples() {
			for changed := range len(c.run(x).Terms) {
				result := c.run(x)
				kept := cloneOf(result)
				overwrite(result.Terms[changed])
				for other, nums := range result.Terms {
					if other != changed && !slices.Equal(nums, kept.Terms[other]) {
						t.Fatalf("elements %d and %d of the result of %s share memory: sample %d", changed, other, c.name, i)
					}
				}
			}
		}
	}
}

func TestSubstitutionsArePlain(t *testing.T) {
	for i, x := range substSamples() {
		if got := impl.PlainOf(x.sig, x.s); !isPlain(got) {
			t.Fatal("PlainOf", i, got)
		}
		if got, _ := impl.Composed(x.sig, x.s, x.u); !isPlain(got) {
			t.Fatal("Composed", i, got)
		}
	}
}

// A result that was kept for the memory of an argument would be wrong for what
// that memory holds later.
func TestSubstResultsFollowTheContents(t *testing.T) {
	s, nums := substOf([]int64{1, -2}, nil), []int64{0, -1, -2}
	if got, _ := impl.Filled(abc(), s, nums); !slices.Equal(got, []int64{0, 1, -2, -2}) || !impl.LinearIn(abc(), nums) {
		t.Fatal(got)
	}
	copy(nums, []int64{0, -2, -2})
	if got, _ := impl.Filled(abc(), s, nums); !slices.Equal(got, nums) || impl.LinearIn(abc(), nums) {
		t.Fatal(got)
	}
	s.Terms[1] = []int64{2}
	if got, _ := impl.Filled(abc(), s, nums); !slices.Equal(got, []int64{0, 2, 2}) {
		t.Fatal(got)
	}
	if got, _ := impl.Composed(abc(), s, s); !equalTerms(got.Terms, [][]int64{{1, 2}, {2}}) {
		t.Fatal(got)
	}
	s.Terms[1][0] = -1
	if got, _ := impl.Composed(abc(), s, s); !equalTerms(got.Terms, [][]int64{{1, -1}, {1, -2}}) {
		t.Fatal(got)
	}
}
