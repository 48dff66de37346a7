package tests

import (
	"slices"
	"strings"
	"testing"

	"loop.example/g00895/impl"
)

// textCalls are the functions of chapter 10. The two terms are the sides of a
// rule, and the list is a substitution. A text that is parsed is the one of the
// arguments, if there is one.
func textCalls() []termsCall {
	text := func(f func(x termsArgs) string) func(x termsArgs) impl.Subst {
		return func(x termsArgs) impl.Subst { f(x); return impl.Subst{} }
	}
	return []termsCall{
		{"TermText", text(func(x termsArgs) string { return impl.TermText(x.sig, x.a) })},
		{"TextTerm", func(x termsArgs) impl.Subst {
			nums, _ := impl.TextTerm(x.sig, impl.TermText(x.sig, x.a))
			return substOf(nums)
		}},
		{"RuleText", text(func(x termsArgs) string { return impl.RuleText(x.sig, impl.Rule{L: x.a, R: x.b}) })},
		{"TextRule", func(x termsArgs) impl.Subst {
			r, _ := impl.TextRule(x.sig, impl.RuleText(x.sig, impl.Rule{L: x.a, R: x.b}))
			return substOf(r.L, r.R)
		}},
		{"SigText", text(func(x termsArgs) string { return impl.SigText(x.sig) })},
		{"TextSig", func(x termsArgs) impl.Subst {
			sig, _ := impl.TextSig(impl.SigText(x.sig))
			return substOf(sig.Arity)
		}},
		{"SubstText", text(func(x termsArgs) string { return impl.SubstText(x.sig, substOf(x.ts...)) })},
	}
}

// textSamples are rules and substitutions, valid or not.
func textSamples() []termsArgs {
	found := ruleSamples()
	for _, x := range substSamples() {
		found = append(found, termsArgs{x.sig, x.t, x.v, x.s.Terms}, termsArgs{x.sig, x.v, x.v, x.u.Terms})
	}
	return append(found, termsArgs{sig: wide(), a: wideTerm(58), b: wideTerm(58), ts: full(wideTerm(58)).Terms})
}

// The samples are of use only if many calls have a result.
func TestTextSamplesHaveResults(t *testing.T) {
	counts := map[string]int{}
	for _, x := range textSamples() {
		for _, c := range textCalls() {
			if result := c.run(x); len(slices.Concat(result.Terms...)) > 0 {
				counts[c.name]++
			}
		}
		if impl.RuleText(x.sig, impl.Rule{L: x.a, R: x.b}) != "" {
			counts["RuleText"]++
		}
		if len(impl.SubstText(x.sig, substOf(x.ts...))) > 1 {
			counts["SubstText"]++
		}
	}
	for _, name := range []string{"TextTerm", "RuleText", "TextRule", "TextSig", "SubstText"} {
		if counts[name] < 100 {
			t.Error(name, counts[name])
		}
	}
}

func TestTextArgumentsAreNotModified(t *testing.T) {
	checkArgumentsAreKept(t, textCalls(), textSamples())
}

func TestTextArgumentsOfOneSlice(t *testing.T) { checkArgumentsOfOneSlice(t, textCalls()) }

func TestTextResultsAreNew(t *testing.T) { checkResultsAreNew(t, textCalls(), textSamples()) }

// Both sides of a rule may have one text.
func TestSidesOfAParsedRuleAreApart(t *testing.T) {
	samples := textSamples()
	for _, nums := range [][]int64{{2}, {1, -1}, {0, -1, -1}, nested(49), twice(nested(15))} {
		samples = append(samples, termsArgs{sig: abc(), a: nums, b: nums})
	}
	checkElementsAreApart(t, textCalls()[3:4], samples)
}

// Two results of one text share no memory, whatever is done with the first one.
func TestParsedTextsAreNew(t *testing.T) {
	for _, s := range []string{"f0(f1(f0(x0,f2)),x12)", "x23", "f2"} {
		one, _ := impl.TextTerm(abc(), s)
		two, _ := impl.TextTerm(abc(), s)
		overwrite(append(one, 5))
		overwrite(one)
		if impl.TermText(abc(), two) != s {
			t.Error(s, two)
		}
		if three, is := impl.TextTerm(abc(), s); !is || !slices.Equal(two, three) {
			t.Error(s, two, three)
		}
	}
	one, _ := impl.TextSig("2 1 0")
	two, _ := impl.TextSig("2 1 0")
	overwrite(one.Arity)
	if three, is := impl.TextSig("2 1 0"); !is || !slices.Equal(two.Arity, abc().Arity) || !slices.Equal(three.Arity, abc().Arity) {
		t.Error(two, three)
	}
	r, _ := impl.TextRule(abc(), "f0(x0,x1) -> f0(x0,x1)")
	overwrite(append(r.L, 7))
	if again, is := impl.TextRule(abc(), "f0(x0,x1) -> f0(x0,x1)"); !is || !slices.Equal(r.R, []int64{0, -1, -2}) || !slices.Equal(again.L, []int64{0, -1, -2}) {
		t.Error(r, again)
	}
}

// What is behind the length of a slice has no text.
func TestTextsEndWithTheLength(t *testing.T) {
	sig := impl.Sig{Arity: []int64{2, 1, 0, 0, 4, -1}[:3]}
	if got := impl.SigText(sig); got != "2 1 0" {
		t.Error(got)
	}
	nums := []int64{1, 1, 2, 2, 3, -25}
	for end, want := range []string{"", "", "", "f1(f1(f2))", "", "", ""} {
		if got := impl.TermText(sig, nums[:end]); got != want {
			t.Error(end, got, want)
		}
	}
	r := impl.Rule{L: []int64{1, -1, -2}[:2], R: []int64{-1, -2}[:1]}
	if got := impl.RuleText(sig, r); got != "f1(x0) -> x0" {
		t.Error(got)
	}
	terms := [][]int64{{2}, nums[:3], nums[2:3], {0}, nums}
	for size, want := range []string{"-", "x0=f2", "x0=f2 x1=f1(f1(f2))", "x0=f2 x1=f1(f1(f2)) x2=f2", "", ""} {
		if got := impl.SubstText(sig, substOf(terms[:size]...)); got != want {
			t.Error(size, got, want)
		}
	}
	if _, is := impl.TextTerm(sig, "f3"); is {
		t.Error("a symbol behind the length")
	}
}

// A result that was kept for the memory of an argument would be wrong for what
// that memory holds later.
func TestTextsFollowTheContents(t *testing.T) {
	sig, nums, other := abc(), []int64{0, 1, -1, 2}, []int64{1, -1}
	s := substOf(other, nums)
	if text := impl.TermText(sig, nums); text != "f0(f1(x0),f2)" || impl.RuleText(sig, impl.Rule{L: nums, R: other}) != text+" -> f1(x0)" || impl.SubstText(sig, s) != "x0=f1(x0) x1="+text {
		t.Fatal(text)
	}
	copy(nums, []int64{0, 2, 1, -2})
	if text := impl.TermText(sig, nums); text != "f0(f2,f1(x1))" || impl.RuleText(sig, impl.Rule{L: nums, R: other}) != "" || impl.SubstText(sig, s) != "x0=f1(x0) x1="+text {
		t.Fatal(text)
	}
	copy(sig.Arity, []int64{3, 0, 0})
	copy(nums, []int64{0, 1, -1, 2})
	if text := impl.TermText(sig, nums); text != "f0(f1,x0,f2)" || impl.SubstText(sig, s) != "" || impl.SigText(sig) != "3 0 0" {
		t.Fatal(text)
	}
	if _, is := impl.TextTerm(sig, "f0(f1(x0),f2)"); is {
		t.Fatal("f1 with an argument")
	}
	s.Terms[0] = []int64{-1}
	if text := impl.SubstText(sig, s); text != "x1=f0(f1,x0,f2)" {
		t.Fatal(text)
	}
	sig.Arity[2] = 4
	if got, is := impl.TextTerm(sig, "f1"); is || len(got) != 0 || impl.TermText(sig, nums) != "" || impl.SigText(sig) != "" || impl.SubstText(sig, s) != "" {
		t.Fatal("f2 with four arguments")
	}
}

// The memory of a text may be a part of another one's.
func TestPartsOfATextAreTexts(t *testing.T) {
	whole := "f0(f1(x0),f1(x0)) -> f1(x0)"
	for from := range len(whole) {
		for to := from; to <= len(whole); to++ {
			checkTextTerm(t, abc(), whole[from:to])
			checkTextRule(t, abc(), whole[from:to])
			checkTextSig(t, whole[from:to])
		}
	}
	for _, long := range []string{strings.Repeat("f2 -> f2 ", 100000), strings.Repeat("(", 1000000), strings.Repeat("0 ", 1000000)} {
		checkTextRule(t, abc(), long)
		checkTextSig(t, long)
		if got, is := impl.TextTerm(abc(), long); is || len(got) != 0 {
			t.Error(long[:10], got)
		}
	}
}
