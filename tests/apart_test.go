package tests

import (
	"slices"
	"testing"

	"loop.example/g00895/impl"
)

func TestUnifiedApart(t *testing.T) {
	cases := []struct {
		sig  impl.Sig
		a, b []int64
		want impl.Subst
		met  []int64
	}{
		{abc(), []int64{-1}, []int64{1, -1}, substOf([]int64{1, -2}), []int64{1, -1}},
		{abc(), []int64{0, -1, 1, -2}, []int64{0, 2, -1}, substOf([]int64{2}, nil, []int64{1, -2}), []int64{0, 2, 1, -1}},
		// The same term, and variables that only look the same.
		{abc(), []int64{-1}, []int64{-1}, substOf(nil, []int64{-1}), []int64{-1}},
		{abc(), []int64{1, -1}, []int64{1, 1, -1}, substOf([]int64{1, -2}), []int64{1, 1, -1}},
		{abc(), []int64{0, -1, -2}, []int64{0, 1, -2, 1, -1}, substOf([]int64{1, -4}, []int64{1, -3}), []int64{0, 1, -1, 1, -2}},
		{abc(), []int64{0, -1, -1}, []int64{0, -1, -2}, substOf(nil, []int64{-1}, []int64{-1}), []int64{0, -1, -1}},
		{abc(), []int64{0, -1, 2}, []int64{0, 2, -1}, substOf([]int64{2}, []int64{2}), []int64{0, 2, 2}},
		// The shift is by more than the number of variables.
		{abc(), []int64{0, -3, -3}, []int64{0, -2, 1, -1}, substOf(nil, nil, []int64{1, -4}, nil, []int64{1, -4}), []int64{0, 1, -1, 1, -1}},
		{abc(), []int64{-12}, []int64{1, -12}, only(11, []int64{1, -24}), []int64{1, -1}},
		// Terms without variables.
		{abc(), []int64{2}, []int64{2}, substOf(), []int64{2}},
		{abc(), []int64{2}, []int64{-1}, substOf([]int64{2}), []int64{2}},
		{abc(), []int64{1, 2}, []int64{-24}, only(23, []int64{1, 2}), []int64{1, 2}},
		{abc(), []int64{-24}, []int64{1, 2}, only(23, []int64{1, 2}), []int64{1, 2}},
		{abc(), []int64{0, 2, 2}, []int64{0, -1, -1}, substOf([]int64{2}), []int64{0, 2, 2}},
		// Terms of MaxTerm numbers, or of MaxVars variables.
		{abc(), []int64{-1}, nested(60), substOf(nested(60)), nested(60)},
		{abc(), nested(60), []int64{1, -24}, only(23, nested(59)), nested(60)},
		{abc(), []int64{-24}, nested(60), only(23, nested(60)), nested(60)},
		{abc(), []int64{2}, allVars(), substOf(), nil},
		{abc(), comb(59), combOn(2), only(23, []int64{2}), combOn(2)},
		{wide(), []int64{7, -1, -1, -2}, []int64{7, 6, -1, -2, -3}, substOf([]int64{6, -3}, nil, nil, []int64{6, -3}, []int64{-2}), []int64{7, 6, -1, 6, -1, -2}},
	}
	for _, c := range cases {
		s, is := impl.UnifiedApart(c.sig, c.a, c.b)
		met, isMet := impl.MetOf(c.sig, c.a, c.b)
		if is != (c.met != nil) || is && !equalTerms(s.Terms, c.want.Terms) || isMet != is || !slices.Equal(met, c.met) || !is && len(s.Terms) != 0 {
			t.Error(c.a, c.b, s, is, met, isMet)
		}
	}
}

// Nothing is shifted behind MaxVars, even if Unified would have an answer for
// the two terms as they are.
func TestTermsThatCannotBeShifted(t *testing.T) {
	for i := range int64(24) {
		for j := range int64(24) {
			a, b := []int64{1, -1 - i}, []int64{1, -1 - j}
			s, is := impl.UnifiedApart(abc(), a, b)
			met, isMet := impl.MetOf(abc(), a, b)
			if i+1+j > 23 {
				if is || isMet || len(s.Terms)+len(met) != 0 || !impl.UnifiesIn(abc(), a, b) {
					t.Fatal(i, j, s, met)
				}
				continue
			}
			if !is || !isMet || !equalTerms(s.Terms, only(i+1+j, []int64{-1 - i}).Terms) || !slices.Equal(met, []int64{1, -1}) {
				t.Fatal(i, j, s, met)
			}
		}
		// A term without variables can be shifted by any number of them.
		if met, is := impl.MetOf(abc(), []int64{0, -24, -1 - i}, []int64{0, 2, 2}); !is || !slices.Equal(met, []int64{0, 2, 2}) {
			t.Fatal(i, met, is)
		}
	}
	for _, pair := range [][2][]int64{{allVars(), {-1}}, {{-1}, allVars()}, {comb(59), comb(59)}, {{0, -24, 2}, {0, 2, -1}}, {{-24}, {0, 2, -1}}} {
		if s, is := impl.UnifiedApart(abc(), pair[0], pair[1]); is || len(s.Terms) != 0 {
			t.Error(pair, s)
		}
		if met, is := impl.MetOf(abc(), pair[0], pair[1]); is || len(met) != 0 {
			t.Error(pair, met)
		}
	}
}

// checkApart checks both functions against the merged classes of terms whose
// variables are moved apart.
func checkApart(t *testing.T, sig impl.Sig, x, y tree) bool {
	t.Helper()
	a, b := x.notation(), y.notation()
	s, is := impl.UnifiedApart(sig, a, b)
	met, isMet := impl.MetOf(sig, a, b)
	if is != isMet || !is && len(s.Terms)+len(met) != 0 {
		t.Fatal(a, b, s, is, met, isMet)
	}
	moved, fits := y.apartFrom(x)
	if !fits {
		if is {
			t.Fatal(a, b, s)
		}
		return false
	}
	want, can := x.unifier(moved)
	if is != can || !equalTerms(s.Terms, want.plain().Terms) || can && !slices.Equal(met, x.filled(want).renamed().notation()) {
		t.Fatal(a, b, s, is, met, want.plain(), can)
	}
	return is
}

func TestUnifiedApartOfSmallTerms(t *testing.T) {
	list := smallTrees([]int64{-1, -12, -24}, 4)
	for _, x := range list {
		for _, y := range list {
			checkApart(t, abc(), x, y)
		}
	}
}

func TestUnifiedApartOfLongTerms(t *testing.T) {
	m, unified, not := makerOf(3), 0, 0
	for range 4000 {
		b, _ := m.blur(false)
		// Few variables, so that many of the second terms can be shifted.
		x, y := b.x.filled(folded(9)), b.y.filled(folded(14))
		if checkApart(t, b.sig, x, y) {
			unified++
		} else {
			not++
		}
	}
	if unified < 300 || not < 300 {
		t.Fatal("too few of the pairs test much", unified, not)
	}
}

// folded replaces every variable by one of the first few.
func folded(few int64) filling {
	f := filling{}
	for i := range int64(impl.MaxVars) {
		f[i] = variable(i % few)
	}
	return f
}

// P5: the common term is an instance of both terms, and every other common
// instance is an instance of it.
func TestCommonInstancesAreInstancesOfTheMetTerm(t *testing.T) {
	list := smallTrees([]int64{-1, -2, -3}, 4)
	isAround := tableOf(list, list, tree.isAround)
	for i, x := range list {
		for j, y := range list {
			met, is := impl.MetOf(abc(), x.notation(), y.notation())
			if is && (!impl.InstanceIn(abc(), x.notation(), met) || !impl.InstanceIn(abc(), y.notation(), met) || !slices.Equal(met, impl.Renamed(abc(), met))) {
				t.Fatal(x.notation(), y.notation(), met)
			}
			for k, z := range list {
				if isAround[i][k] && isAround[j][k] && !impl.InstanceIn(abc(), met, z.notation()) {
					t.Fatal(x.notation(), y.notation(), met, is, z.notation())
				}
			}
		}
	}
}

// The unified term has at most MaxTerm numbers also when the variables are
// moved apart.
func TestMetUpToTheLimit(t *testing.T) {
	for size := 1; size <= 57; size++ {
		a, b := []int64{0, -1, -1}, slices.Concat([]int64{0}, nested(size), []int64{-1})
		met, is := impl.MetOf(abc(), a, b)
		if is != (1+2*size <= 60) || is && !slices.Equal(met, twice(nested(size))) || !is && len(met) != 0 {
			t.Fatal(size, met, is)
		}
		met, is = impl.MetOf(abc(), slices.Concat([]int64{1}, a), slices.Concat([]int64{1}, b))
		if is != (2+2*size <= 60) || is && len(met) != 2+2*size || !is && len(met) != 0 {
			t.Fatal(size, met, is)
		}
	}
	for high := range 30 {
		x := tower(high, onTwo(variable(0), variable(0)))
		for size := int64(1); size <= 29; size++ {
			part := tower(int(size)-1, variable(4))
			y, want := tower(high, onTwo(part, variable(3))), tower(high, onTwo(part, part)).renamed()
			fits := int64(high)+1+2*size <= 60
			met, is := impl.MetOf(abc(), x.notation(), y.notation())
			if is != fits || is && !slices.Equal(met, want.notation()) || !is && len(met) != 0 {
				t.Fatal(high, size, met, is)
			}
		}
	}
}
