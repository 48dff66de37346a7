package tests

import (
	"slices"
	"testing"

	"loop.example/g00895/impl"
)

func matchCalls() []termsCall {
	return []termsCall{
		{"Matched", func(x termsArgs) impl.Subst { s, _ := impl.Matched(x.sig, x.a, x.b); return s }},
		{"InstanceIn", func(x termsArgs) impl.Subst { impl.InstanceIn(x.sig, x.a, x.b); return impl.Subst{} }},
		{"EmbedsIn", func(x termsArgs) impl.Subst { return substOf(impl.EmbedsIn(x.sig, x.a, x.b)) }},
		{"MatchedAll", func(x termsArgs) impl.Subst { return substOf(impl.MatchedAll(x.sig, x.ts, x.b)) }},
		{"MoreGeneral", func(x termsArgs) impl.Subst { impl.MoreGeneral(x.sig, x.a, x.b); return impl.Subst{} }},
		{"MostGeneral", func(x termsArgs) impl.Subst { return substOf(impl.MostGeneral(x.sig, x.ts)) }},
	}
}

func matchSamples() []termsArgs {
	patterns := [][]int64{{-1}, {-24}, {1, -1}, {0, -1, -2}, {0, -2, -24}, {0, -1, -1}, {0, -2, 0, -1, 2}, append(nested(60)[:59], -1)}
	patterns = append(patterns, someTerms()...)
	groups := [][][]int64{nil, {}, somePatterns(), patterns[:12], patterns[2:15], slices.Repeat([][]int64{big()}, 12), {{-1}, {0}}, {nil, {2}}}
	terms := append(someTerms(), twice(nested(29)), combOn(1, 2), []int64{0, 1, 2, 0, -1, 2}, []int64{0, -1, -2})
	var found []termsArgs
	for i, p := range patterns {
		for j, x := range terms {
			found = append(found, termsArgs{abc(), p, x, groups[(i+j)%len(groups)]})
		}
	}
	for _, x := range noTerms() {
		found = append(found, termsArgs{x.sig, x.nums, big(), [][]int64{{-1}, x.nums}}, termsArgs{x.sig, big(), x.nums, nil})
	}
	return append(found, termsArgs{})
}

func TestMatchArgumentsAreNotModified(t *testing.T) {
	checkArgumentsAreKept(t, matchCalls(), matchSamples())
}

func TestMatchArgumentsOfOneSlice(t *testing.T) { checkArgumentsOfOneSlice(t, matchCalls()) }

func TestMatchResultsAreNew(t *testing.T) { checkResultsAreNew(t, matchCalls(), matchSamples()) }

// The parts of the term that are matched may be neighbours, or the same slice
// in more than one argument; the terms of a result have nothing in common.
func TestTermsOfAMatchAreApart(t *testing.T) {
	checkElementsAreApart(t, matchCalls()[:1], matchSamples())
}

// A result that was kept for the memory of an argument would be wrong for what
// that memory holds later.
func TestMatchResultsFollowTheContents(t *testing.T) {
	arity, p, x := []int64{2, 1, 0}, []int64{0, -1, -1}, []int64{0, -2, -2}
	sig, ps := impl.Sig{Arity: arity}, [][]int64{{0, -1, -2}, {0, -1, -1}}
	if s, is := impl.Matched(sig, p, x); !is || !equalTerms(s.Terms, [][]int64{{-2}}) || !slices.Equal(impl.MatchedAll(sig, ps, x), []int64{0, 1}) {
		t.Fatal("f0(x1,x1)", s, is)
	}
	x[1] = 2
	if s, is := impl.Matched(sig, p, x); is || len(s.Terms) != 0 || len(impl.EmbedsIn(sig, p, x)) != 0 || !slices.Equal(impl.MatchedAll(sig, ps, x), []int64{0}) {
		t.Fatal("f0(f2,x1)", s, is)
	}
	p[2] = -3
	if s, is := impl.Matched(sig, p, x); !is || !equalTerms(s.Terms, [][]int64{{2}, nil, {-2}}) || !slices.Equal(impl.EmbedsIn(sig, p, x), []int64{0}) || !impl.MoreGeneral(sig, p, x) {
		t.Fatal("f0(x0,x2)", s, is)
	}
	if !slices.Equal(impl.MostGeneral(sig, ps), []int64{0}) {
		t.Fatal("f0(x0,x1) and f0(x0,x0)")
	}
	ps[0] = []int64{0, 2, -1}
	if !slices.Equal(impl.MostGeneral(sig, ps), []int64{0, 1}) || len(impl.MatchedAll(sig, ps, x)) != 1 {
		t.Fatal("f0(f2,x0) and f0(x0,x0)")
	}
	ps[0][1] = -2
	if !slices.Equal(impl.MostGeneral(sig, ps), []int64{0}) {
		t.Fatal("f0(x1,x0) and f0(x0,x0)")
	}
	arity[0] = 3
	if _, is := impl.Matched(sig, p, x); is || impl.InstanceIn(sig, x, x) || len(impl.MostGeneral(sig, ps))+len(impl.MatchedAll(sig, ps, x)) != 0 {
		t.Fatal("f0 without its third argument")
	}
}
