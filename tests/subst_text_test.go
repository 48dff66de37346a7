package tests

import (
	"slices"
	"strings"
	"testing"

	"loop.example/g00895/impl"
)

// readFilling returns the replacements that the text of a substitution names, as
// it is read from left to right, and whether it is one.
func readFilling(sig impl.Sig, s string) (filling, bool) {
	f := filling{}
	if s == "-" {
		return f, true
	}
	last := int64(-1)
	for part := range strings.SplitSeq(s, " ") {
		name, text, is := strings.Cut(part, "=")
		v, isTree := readTree(sig, name)
		x, isTerm := readTree(sig, text)
		i := -1 - v.head
		if !is || !isTree || !isTerm || i <= last || x.head == v.head {
			return nil, false
		}
		f[i], last = x, i
	}
	return f, true
}

// checkSubstText checks the text of a valid substitution, and P10: what the text
// says is the substitution.
func checkSubstText(t *testing.T, sig impl.Sig, s impl.Subst, want string) {
	t.Helper()
	got := impl.SubstText(sig, s)
	if got != want {
		t.Fatal(sig.Arity, s, got, want)
	}
	f, is := readFilling(sig, got)
	if back := f.subst(0); !is || !equalTerms(back.Terms, impl.PlainOf(sig, s).Terms) {
		t.Fatal(sig.Arity, s, got, back)
	}
}

func TestSubstitutionsAndTheirTexts(t *testing.T) {
	cases := []struct {
		s    impl.Subst
		text string
	}{
		{substOf([]int64{1, 2}, []int64{-2}, []int64{-1}), "x0=f1(f2) x2=x0"},
		// Nothing is replaced.
		{impl.Subst{}, "-"},
		{substOf(), "-"},
		{substOf(nil), "-"},
		{substOf(nil, []int64{}, nil), "-"},
		{substOf(make([][]int64, 24)...), "-"},
		{substOf([]int64{-1}), "-"},
		{substOf([]int64{-1}, []int64{-2}, nil, []int64{-4}), "-"},
		{only(23, []int64{-24}), "-"},
		// A variable that is mapped to itself is left out.
		{mixed(), "x0=f1(x1) x2=f2"},
		{substOf([]int64{-1}, []int64{2}), "x1=f2"},
		{substOf([]int64{2}, []int64{-2}), "x0=f2"},
		{substOf([]int64{-2}, []int64{-1}, []int64{-3}), "x0=x1 x1=x0"},
		// But not one whose replacement contains it.
		{substOf([]int64{1, -1}, []int64{0, -2, -2}), "x0=f1(x0) x1=f0(x1,x1)"},
		// Numbers of one and of two digits, in their own order.
		{substOf(nil, []int64{2}), "x1=f2"},
		{only(9, []int64{-11}), "x9=x10"},
		{only(10, []int64{-10}), "x10=x9"},
		{only(23, []int64{-1}), "x23=x0"},
		{only(23, []int64{0, -23, -24}), "x23=f0(x22,x23)"},
		{substOf(nil, []int64{-24}, []int64{2}, nil, nil, nil, nil, nil, nil, []int64{1, 2}, []int64{-2}, []int64{0, 2, 2}), "x1=x23 x2=f2 x9=f1(f2) x10=x1 x11=f0(f2,f2)"},
	}
	for _, c := range cases {
		checkSubstText(t, abc(), c.s, c.text)
	}
	checkSubstText(t, wide(), substOf(nil, []int64{7, 0, -1, 2}, []int64{4, 0, 0, 6, 5}), "x1=f7(f0,x0,f2) x2=f4(f0,f0,f6(f5))")
}

func TestTextsOfSmallSubstitutions(t *testing.T) {
	for _, f := range append(fillingsOf([]int64{0, 1, 2}, smallTrees([]int64{-1, -2}, 2)), fillingsOf([]int64{0, 9, 10, 23}, []tree{variable(9), variable(23), {head: 2}, onOne(variable(10))})...) {
		for _, size := range []int64{0, 3, 24} {
			checkSubstText(t, abc(), f.subst(size), f.text())
		}
		checkSubstText(t, abc(), f.plain(), f.text())
	}
}

// The text of a substitution may be longer than MaxText.
func TestTextsOfLongSubstitutions(t *testing.T) {
	for _, f := range longFillings() {
		checkSubstText(t, abc(), f.subst(0), f.text())
	}
	m := makerOf(14)
	for range 300 {
		f := filling{}
		for i := range int64(impl.MaxVars) {
			if m.IntN(3) > 0 {
				f[i] = m.tree(wide(), 1+m.Int64N(60))
			}
		}
		checkSubstText(t, wide(), f.subst(0), f.text())
	}
	// All variables are replaced, or all but one.
	low, high := filling{}, filling{}
	for i := range int64(impl.MaxVars) {
		low[i], high[i] = variable(1), tower(59, variable(23))
	}
	checkSubstText(t, abc(), full([]int64{-2}), low.text())
	checkSubstText(t, abc(), full(append(nested(60)[:59], -24)), high.text())
	if one, all := strings.Count(low.text(), "=x1"), len(high.text()); one != 23 || all != 10*3+14*4+24*239+23 {
		t.Error(one, all)
	}
}

func TestSubstTextOfNoSubstitutions(t *testing.T) {
	for _, x := range badSubsts() {
		if got := impl.SubstText(x.sig, x.s); got != "" {
			t.Error(x.name, x.sig.Arity, got)
		}
	}
	for _, nums := range slicesOf([]int64{-25, -24, -1, 0, 1, 2, 3}, 4) {
		for _, s := range []impl.Subst{substOf(nums), substOf([]int64{2}, nums), substOf(nums, []int64{-2}), only(23, nums)} {
			if got := impl.SubstText(abc(), s); (got != "") != impl.SubstOk(abc(), s) {
				t.Fatal(s, got)
			}
		}
	}
	for size := range 60 {
		s := substOf(slices.Repeat([][]int64{{2}}, size)...)
		if got := impl.SubstText(abc(), s); strings.Count(got, "=") != size && size <= 24 || size > 24 && got != "" {
			t.Error(size, got)
		}
	}
}

// Two substitutions have one text exactly if they replace every variable in the
// same way.
func TestTextsOfSubstitutionsDiffer(t *testing.T) {
	list := fillingsOf([]int64{0, 1, 11}, []tree{variable(0), variable(1), variable(11), {head: 2}})
	for _, f := range list {
		for _, g := range list {
			a, b := f.subst(0), g.subst(13)
			if (impl.SubstText(abc(), a) == impl.SubstText(abc(), b)) != impl.SameSubst(abc(), a, b) {
				t.Fatal(a, b)
			}
		}
	}
}
