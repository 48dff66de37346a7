package tests

import (
	"slices"
	"testing"

	"loop.example/g00895/impl"
)

func unifyCalls() []termsCall {
	return []termsCall{
		{"Unified", func(x termsArgs) impl.Subst { s, _ := impl.Unified(x.sig, x.a, x.b); return s }},
		{"UnifiedApart", func(x termsArgs) impl.Subst { s, _ := impl.UnifiedApart(x.sig, x.a, x.b); return s }},
		{"UnifiesIn", func(x termsArgs) impl.Subst { impl.UnifiesIn(x.sig, x.a, x.b); return impl.Subst{} }},
		{"BehindOf", func(x termsArgs) impl.Subst { impl.BehindOf(x.sig, x.a); return impl.Subst{} }},
		{"MetOf", func(x termsArgs) impl.Subst { met, _ := impl.MetOf(x.sig, x.a, x.b); return substOf(met) }},
		{"Generalised", func(x termsArgs) impl.Subst { return substOf(impl.Generalised(x.sig, x.a, x.b)) }},
		{"GeneralisedAll", func(x termsArgs) impl.Subst { return substOf(impl.GeneralisedAll(x.sig, x.ts)) }},
	}
}

// unifySamples are those of matching, and terms that are unified in more than
// one step, or not after the first ones.
func unifySamples() []termsArgs {
	left, right, _ := sides(25, 25)
	pairs := [][2][]int64{
		{{0, -1, 1, -2}, {0, 1, -3, -1}},
		{{0, -1, 0, -2, -3}, {0, 1, -4, 0, -1, -2}},
		{{0, -1, -1}, {0, 1, -2, 1, 2}},
		{{0, -1, 0, -2, -3}, {0, -2, 0, -3, 0, 2, -4}},
		{{0, -1, 0, -2, -3}, {0, 1, -2, 0, 1, -3, 1, -1}},
		{{0, -1, -2}, slices.Concat([]int64{0}, nested(29), []int64{-1})},
		{{0, -1, -2}, slices.Concat([]int64{0}, nested(30), []int64{-1})},
		{allVars(), impl.Renamed(abc(), allVars())},
		{row(left...).notation(), row(right...).notation()},
	}
	found := matchSamples()
	for _, pair := range pairs {
		ts := [][]int64{pair[0], pair[1], {0, -1, -2}, pair[0]}
		found = append(found, termsArgs{abc(), pair[0], pair[1], ts}, termsArgs{abc(), pair[1], pair[0], ts[:1]})
	}
	return found
}

func TestUnifyArgumentsAreNotModified(t *testing.T) {
	checkArgumentsAreKept(t, unifyCalls(), unifySamples())
}

func TestUnifyArgumentsOfOneSlice(t *testing.T) { checkArgumentsOfOneSlice(t, unifyCalls()) }

func TestUnifyResultsAreNew(t *testing.T) { checkResultsAreNew(t, unifyCalls(), unifySamples()) }

// More than one variable may be replaced by the same part of a term.
func TestTermsOfAUnifierAreApart(t *testing.T) {
	checkElementsAreApart(t, unifyCalls()[:2], unifySamples())
}

// A result that was kept for the memory of an argument would be wrong for what
// that memory holds later.
func TestUnifyResultsFollowTheContents(t *testing.T) {
	arity, a, b := []int64{2, 1, 0}, []int64{0, -1, -2}, []int64{0, -2, 2}
	sig := impl.Sig{Arity: arity}
	if s, is := impl.Unified(sig, a, b); !is || !equalTerms(s.Terms, [][]int64{{2}, {2}}) || impl.BehindOf(sig, a) != 2 {
		t.Fatal("f0(x0,x1) and f0(x1,f2)", s, is)
	}
	a[2] = -4
	if s, is := impl.Unified(sig, a, b); !is || !equalTerms(s.Terms, [][]int64{nil, {-1}, nil, {2}}) || impl.BehindOf(sig, a) != 4 {
		t.Fatal("f0(x0,x3) and f0(x1,f2)", s, is)
	}
	if s, is := impl.UnifiedApart(sig, a, b); !is || !equalTerms(s.Terms, [][]int64{nil, nil, nil, {2}, nil, {-1}}) {
		t.Fatal("f0(x0,x3) and f0(x5,f2)", s, is)
	}
	if got := impl.Generalised(sig, a, b); !slices.Equal(got, []int64{0, -1, -2}) {
		t.Fatal("f0(x0,x3) and f0(x1,f2)", got)
	}
	ts := [][]int64{a, b}
	copy(a, []int64{0, 2, 2})
	if got := impl.GeneralisedAll(sig, ts); !slices.Equal(got, []int64{0, -1, 2}) || impl.BehindOf(sig, a) != 0 {
		t.Fatal("f0(f2,f2) and f0(x1,f2)", got)
	}
	ts[1] = a
	if got := impl.GeneralisedAll(sig, ts); !slices.Equal(got, a) {
		t.Fatal("f0(f2,f2) twice", got)
	}
	if met, is := impl.MetOf(sig, a, b); !is || !slices.Equal(met, a) || !impl.UnifiesIn(sig, a, b) {
		t.Fatal("f0(f2,f2) and f0(x1,f2)", met, is)
	}
	arity[0] = 3
	if impl.UnifiesIn(sig, a, b) || impl.BehindOf(sig, a) != -1 || len(impl.Generalised(sig, a, b))+len(impl.GeneralisedAll(sig, ts)) != 0 {
		t.Fatal("f0 without its third argument")
	}
}
