package tests

import (
	"slices"
	"testing"

	"loop.example/g00895/impl"
)

// A matchCall is a function of chapter 4 on the arguments that the tests vary.
// A slice that it returns is given as the only element of a substitution.
type matchCall struct {
	name string
	run  func(a matchArgs) impl.Subst
}

// The arguments of a matchCall, valid or not.
type matchArgs struct {
	sig  impl.Sig
	p, t []int64
	ps   [][]int64
}

func matchCalls() []matchCall {
	return []matchCall{
		{"Matched", func(a matchArgs) impl.Subst { s, _ := impl.Matched(a.sig, a.p, a.t); return s }},
		{"InstanceIn", func(a matchArgs) impl.Subst { impl.InstanceIn(a.sig, a.p, a.t); return impl.Subst{} }},
		{"EmbedsIn", func(a matchArgs) impl.Subst { return substOf(impl.EmbedsIn(a.sig, a.p, a.t)) }},
		{"MatchedAll", func(a matchArgs) impl.Subst { return substOf(impl.MatchedAll(a.sig, a.ps, a.t)) }},
		{"MoreGeneral", func(a matchArgs) impl.Subst { impl.MoreGeneral(a.sig, a.p, a.t); return impl.Subst{} }},
		{"MostGeneral", func(a matchArgs) impl.Subst { return substOf(impl.MostGeneral(a.sig, a.ps)) }},
	}
}

func matchSamples() []matchArgs {
	patterns := [][]int64{{-1}, {-24}, {1, -1}, {0, -1, -2}, {0, -2, -24}, {0, -1, -1}, {0, -2, 0, -1, 2}, append(nested(60)[:59], -1)}
	patterns = append(patterns, someTerms()...)
	groups := [][][]int64{nil, {}, somePatterns(), patterns[:12], patterns[2:15], slices.Repeat([][]int64{big()}, 12), {{-1}, {0}}, {nil, {2}}}
	terms := append(someTerms(), twice(nested(29)), combOn(1, 2), []int64{0, 1, 2, 0, -1, 2}, []int64{0, -1, -2})
	var found []matchArgs
	for i, p := range patterns {
		for j, x := range terms {
			found = append(found, matchArgs{abc(), p, x, groups[(i+j)%len(groups)]})
		}
	}
	for _, x := range noTerms() {
		found = append(found, matchArgs{x.sig, x.nums, big(), [][]int64{{-1}, x.nums}}, matchArgs{x.sig, big(), x.nums, nil})
	}
	return append(found, matchArgs{})
}

func TestMatchArgumentsAreNotModified(t *testing.T) {
	for _, c := range matchCalls() {
		for i, x := range matchSamples() {
			guards, list := []guard{guardOf(x.sig.Arity), guardOf(x.p), guardOf(x.t)}, substGuardOf(substOf(x.ps...))
			touched := func() bool { return slices.ContainsFunc(guards, guard.touched) || list.touched() }
			result := c.run(matchArgs{impl.Sig{Arity: guards[0].nums}, guards[1].nums, guards[2].nums, list.s.Terms})
			if touched() {
				t.Fatalf("%s modifies an argument: sample %d", c.name, i)
			}
			overwriteSubst(result)
			if touched() {
				t.Fatalf("the result of %s shares memory with an argument: sample %d", c.name, i)
			}
		}
	}
}

// One slice may be the pattern, the term and every element of a list.
func TestMatchArgumentsOfOneSlice(t *testing.T) {
	for _, nums := range append(someTerms(), []int64{0, -1, 1, -1}, twice(nested(29))) {
		for at := range int64(len(nums)) {
			for _, c := range matchCalls() {
				g := guardOf(nums)
				part := g.nums[at:impl.EndOf(abc(), nums, at)]
				for _, x := range []matchArgs{{p: g.nums, t: part}, {p: part, t: g.nums}, {p: []int64{-1}, t: part}} {
					x.sig, x.ps = abc(), [][]int64{part, g.nums, x.t, x.t}
					want := cloneOf(c.run(matchArgs{abc(), slices.Clone(x.p), slices.Clone(x.t), cloneOf(substOf(x.ps...)).Terms}))
					got := c.run(x)
					if !equalTerms(got.Terms, want.Terms) || g.touched() {
						t.Fatal(c.name, nums, at, got, want)
					}
					overwriteSubst(got)
					if g.touched() {
						t.Fatalf("the result of %s shares memory with an argument: %v, %d", c.name, nums, at)
					}
				}
			}
		}
	}
}

func TestMatchResultsAreNew(t *testing.T) {
	for _, c := range matchCalls() {
		for i, x := range matchSamples() {
			first := c.run(x)
			kept := cloneOf(first)
			overwriteSubst(c.run(x))
			if !equalTerms(first.Terms, kept.Terms) {
				t.Fatalf("two results of %s share memory: sample %d", c.name, i)
			}
			overwriteSubst(first)
			if third := c.run(x); !equalTerms(third.Terms, kept.Terms) {
				t.Fatalf("a result of %s was kept: sample %d: %v, then %v", c.name, i, kept, third)
			}
		}
	}
}

// The parts of the term that are matched may be neighbours, or the same slice
// in more than one argument; the terms of a result have nothing in common.
func TestTermsOfAMatchAreApart(t *testing.T) {
	for i, x := range matchSamples() {
		result, _ := impl.Matched(x.sig, x.p, x.t)
		for changed := range result.Terms {
			again, _ := impl.Matched(x.sig, x.p, x.t)
			overwrite(again.Terms[changed])
			for other, nums := range again.Terms {
				if other != changed && !slices.Equal(nums, result.Terms[other]) {
					t.Fatalf("elements %d and %d share memory: sample %d", changed, other, i)
				}
			}
		}
	}
}

// A result that was kept for the memory of an argument would be wrong for what
// that memory holds later.
func TestMatchResultsFollowTheContents(t *testing.T) {
	arity, p, x := []int64{2, 1, 0}, []int64{0, -1, -1}, []int64{0, -2, -2}
	sig, ps := impl.Sig{Arity: arity}, [][]int64{{0, -1, -2}, {0, -1, -1}}
	if s, is := impl.Matched(sig, p, x); !is || !equalTerms(s.Terms, [][]int64{{-2}}) || !slices.Equal(impl.MatchedAll(sig, ps, x), []int64{0, 1}) {
		t.Fatal("f0(x1,x1)", s, is)
	}
	x[1] = 2
	if s, is := impl.Matched(sig, p, x); is || len(s.Terms) != 0 || len(impl.EmbedsIn(sig, p, x)) != 0 || !slices.Equal(impl.MatchedAll(sig, ps, x), []int64{0}) {
		t.Fatal("f0(f2,x1)", s, is)
	}
	p[2] = -3
	if s, is := impl.Matched(sig, p, x); !is || !equalTerms(s.Terms, [][]int64{{2}, nil, {-2}}) || !slices.Equal(impl.EmbedsIn(sig, p, x), []int64{0}) || !impl.MoreGeneral(sig, p, x) {
		t.Fatal("f0(x0,x2)", s, is)
	}
	if !slices.Equal(impl.MostGeneral(sig, ps), []int64{0}) {
		t.Fatal("f0(x0,x1) and f0(x0,x0)")
	}
	ps[0] = []int64{0, 2, -1}
	if !slices.Equal(impl.MostGeneral(sig, ps), []int64{0, 1}) || len(impl.MatchedAll(sig, ps, x)) != 1 {
		t.Fatal("f0(f2,x0) and f0(x0,x0)")
	}
	ps[0][1] = -2
	if !slices.Equal(impl.MostGeneral(sig, ps), []int64{0}) {
		t.Fatal("f0(x1,x0) and f0(x0,x0)")
	}
	arity[0] = 3
	if _, is := impl.Matched(sig, p, x); is || impl.InstanceIn(sig, x, x) || len(impl.MostGeneral(sig, ps))+len(impl.MatchedAll(sig, ps, x)) != 0 {
		t.Fatal("f0 without its third argument")
	}
}
