package tests

import (
	"maps"
	"slices"
	"strings"
	"testing"

	"loop.example/g00895/impl"
)

// checkTextRule checks what TextRule makes of a text, whether it is one of a rule
// or not.
func checkTextRule(t *testing.T, sig impl.Sig, s string) (is bool) {
	t.Helper()
	x, want := readRuling(sig, s)
	got, is := impl.TextRule(sig, s)
	if is != want || is && !equalRules(got, x.rule()) || !is && len(got.L)+len(got.R) != 0 {
		t.Fatalf("%v %q: %v, %v; %v, %v", sig.Arity, s, got, is, x.rule(), want)
	}
	if is && impl.RuleText(sig, got) != s {
		t.Fatalf("%v %q: %v, %q", sig.Arity, s, got, impl.RuleText(sig, got))
	}
	return is
}

// checkRuling checks both ways between two trees, which may be no rule, and their
// text.
func checkRuling(t *testing.T, sig impl.Sig, x ruling) {
	t.Helper()
	want := ""
	if x.isRule() {
		want = x.text()
	}
	if got := impl.RuleText(sig, x.rule()); got != want {
		t.Fatal(sig.Arity, x.rule(), got, want)
	}
	if is := checkTextRule(t, sig, x.text()); is != (x.isRule() && len(x.text()) <= 400) {
		t.Fatal(sig.Arity, x.text(), is)
	}
}

func TestRulesAndTheirTexts(t *testing.T) {
	cases := []struct {
		sig  impl.Sig
		rule impl.Rule
		text string
	}{
		{abc(), sums().Rules[0], "f0(f2,x0) -> x0"},
		{abc(), sums().Rules[1], "f0(f1(x0),x1) -> f1(f0(x0,x1))"},
		// The right side is a variable.
		{abc(), impl.Rule{L: []int64{1, 1, -24}, R: []int64{-24}}, "f1(f1(x23)) -> x23"},
		{abc(), impl.Rule{L: []int64{0, -10, -11}, R: []int64{-10}}, "f0(x9,x10) -> x9"},
		// There are no variables, or none on the right.
		{abc(), impl.Rule{L: []int64{2}, R: []int64{2}}, "f2 -> f2"},
		{abc(), impl.Rule{L: []int64{2}, R: []int64{1, 2}}, "f2 -> f1(f2)"},
		{abc(), impl.Rule{L: []int64{0, -5, -5}, R: []int64{2}}, "f0(x4,x4) -> f2"},
		{wide(), impl.Rule{L: []int64{7, -1, -2, -3}, R: []int64{4, -3, 0, -3}}, "f7(x0,x1,x2) -> f4(x2,f0,x2)"},
		// The variables are not numbered anew.
		{abc(), impl.Rule{L: []int64{0, -20, -2}, R: []int64{0, -2, -20}}, "f0(x19,x1) -> f0(x1,x19)"},
		{abc(), impl.Rule{L: nested(60), R: []int64{2}}, strings.Repeat("f1(", 59) + "f2" + strings.Repeat(")", 59) + " -> f2"},
	}
	for _, c := range cases {
		if got := impl.RuleText(c.sig, c.rule); got != c.text {
			t.Error(c.rule, got, c.text)
		}
		if got, is := impl.TextRule(c.sig, c.text); !is || !equalRules(got, c.rule) {
			t.Error(c.text, got, is)
		}
	}
	for _, x := range goodRules() {
		s := impl.RuleText(x.sig, x.rule)
		if s != impl.TermText(x.sig, x.rule.L)+" -> "+impl.TermText(x.sig, x.rule.R) {
			t.Error(x.name, s)
		}
		if is := checkTextRule(t, x.sig, s); is != (len(s) <= 400) {
			t.Error(x.name, s, is)
		}
	}
}

// P10 for all small rules. Two terms that are no rule are not made one by their
// text.
func TestTextsOfSmallRules(t *testing.T) {
	list := smallTrees([]int64{-1, -2, -24}, 3)
	for _, l := range list {
		for _, r := range list {
			checkRuling(t, abc(), ruling{l, r})
		}
	}
	for i := range int64(impl.MaxVars) {
		for j := range int64(impl.MaxVars) {
			checkRuling(t, abc(), ruling{onOne(variable(i)), onTwo(tree{head: 2}, variable(j))})
		}
	}
}

// P10 for long rules.
func TestTextsOfLongRules(t *testing.T) {
	m := makerOf(12)
	for range 1000 {
		b := m.book()
		for _, x := range b.list {
			checkRuling(t, b.sig, x)
			checkRuling(t, b.sig, ruling{x.r, x.l})
		}
	}
}

func TestTextsThatAreAlmostOfRules(t *testing.T) {
	groups := map[string][]string{
		"nothing":                {"", " ", " -> ", "->", "-"},
		"a side is missing":      {"f2", "f2 -> ", " -> f2", "f2 ->", "-> f2", "f2 -> f2 -> f2", "f2 ->  -> f2", " -> f2 -> f2", "f2 -> f2 -> "},
		"a blank":                {"f2->f2", "f2 ->f2", "f2-> f2", "f2  -> f2", "f2 ->  f2", " f2 -> f2", "f2 -> f2 ", "f2 - > f2", "f2\t->\tf2", "f2\u00a0-> f2", "f2 ->\nf2", "f2 -> f2\n", "f1(x0 -> x0)"},
		"another arrow":          {"f2 - f2", "f2 > f2", "f2 = f2", "f2 => f2", "f2 --> f2", "f2 ->> f2", "f2 <- f2", "f2 \u2192 f2", "f2, f2", "f2 f2", "f2 -- f2", "f2 >- f2"},
		"a variable on the left": {"x0 -> x0", "x0 -> f2", "x23 -> f1(x23)", "x0 -> x1"},
		"a new variable":         {"f1(x0) -> x1", "f2 -> x0", "f1(x0) -> f0(x0,x1)", "f0(x0,x1) -> f0(x2,x1)", "f1(x2) -> x23", "f1(x10) -> x1", "f1(x1) -> x10", "f1(x0) -> f1(f1(x12))"},
		"no term on the left":    {"f0 -> f2", "f2() -> f2", "f1(f2 -> f2", "f02 -> f2", "f3 -> f2", "f1(x24) -> f2", "F2 -> f2", "f1(f2)) -> f2", "f2,f2 -> f2", "f0(x0) -> x0", "f1(x00) -> f2"},
		"no term on the right":   {"f2 -> f0", "f2 -> f2()", "f2 -> f1(f2", "f2 -> f02", "f2 -> f3", "f1(x0) -> x24", "f2 -> F2", "f2 -> f1(f2))", "f2 -> f2,f2", "f1(x0) -> x-1", "f1(x0) -> x00", "f1(x0) -> X0"},
		"more behind the end":    {"f2 -> f2 f2", "f2 -> f2f2", "f2 -> f22", "f1(x0) -> x0x0", "f1(x0) -> x0 -> x0", "f2 -> f2;", "f2 -> f2\x00"},
		"more at the beginning":  {"1 f2 -> f2", "rule f2 -> f2", "- f2 -> f2", "-> f2 -> f2", "f2f2 -> f2", "\ufefff2 -> f2"},
	}
	for name, group := range groups {
		for _, s := range group {
			if got, is := impl.TextRule(abc(), s); is || len(got.L)+len(got.R) != 0 {
				t.Errorf("%s: %q is the text of no rule: %v", name, s, got)
			}
			checkTextRule(t, abc(), s)
		}
	}
}

// Of all texts of few pieces exactly these are accepted.
func TestAllShortTextsOfRules(t *testing.T) {
	accepted := map[string]bool{}
	for _, s := range textsOf([]string{"x0", "x1", "f1(", "f0", ")", " -> ", " ", "->"}, 6) {
		if checkTextRule(t, impl.Sig{Arity: []int64{0, 1}}, s) {
			accepted[s] = true
		}
	}
	want := []string{"f0 -> f0", "f0 -> f1(f0)", "f1(f0) -> f0", "f1(x0) -> f0", "f1(x0) -> x0", "f1(x1) -> f0", "f1(x1) -> x1"}
	if got := slices.Sorted(maps.Keys(accepted)); !slices.Equal(got, want) {
		t.Fatal(got)
	}
}

func TestChangedTextsOfRules(t *testing.T) {
	accepted := 0
	check := func(sig impl.Sig, x ruling) {
		for _, s := range almost(x.text()) {
			if checkTextRule(t, sig, s) {
				accepted++
			}
		}
	}
	for _, x := range someRulings() {
		check(abc(), x)
	}
	m := makerOf(13)
	for range 5 {
		b := m.book()
		for _, x := range b.list {
			check(b.sig, x)
		}
	}
	if accepted < 300 {
		t.Fatal("too few of the texts are texts of rules", accepted)
	}
}

// A text has at most MaxText bytes. RuleText writes a rule with a longer text too.
func TestRuleTextsUpToTheLimit(t *testing.T) {
	seen := map[int]bool{}
	check := func(l, r tree) {
		checkRuling(t, abc(), ruling{l, r})
		seen[len(ruling{l, r}.text())] = true
	}
	for right := range 60 {
		for _, left := range []int{1, 2, 20, 39, 40, 58, 59} {
			for _, i := range []int64{1, 10} {
				check(tower(left, variable(i)), tower(right, tree{head: 2}))
				check(tower(left, variable(i)), tower(right, variable(i)))
			}
		}
		check(onTwo(tower(47, variable(1)), variable(1)), tower(right, variable(1)))
	}
	for _, size := range []int{12, 398, 399, 400, 401, 402, 482} {
		if !seen[size] {
			t.Error("no rule with a text of so many bytes", size)
		}
	}
}

// A rule whose text is as long as possible is refused with anything more.
func TestRuleTextsBeyondTheLimit(t *testing.T) {
	s := ruling{tower(59, variable(1)), tower(39, variable(1))}.text()
	if is := checkTextRule(t, abc(), s); len(s) != 400 || !is {
		t.Fatal(len(s), is)
	}
	for _, more := range somePieces() {
		for _, text := range []string{s + more, more + s, strings.Replace(s, " -> ", more+" -> ", 1), strings.Replace(s, " -> ", " -> "+more, 1)} {
			if is := checkTextRule(t, abc(), text); is {
				t.Error(text)
			}
		}
	}
	for _, longer := range []ruling{{tower(59, variable(1)), tower(40, variable(1))}, {tower(59, variable(10)), tower(39, tree{head: 2})}, {tower(59, variable(10)), tower(59, variable(10))}} {
		text := impl.RuleText(abc(), longer.rule())
		if text != longer.text() || len(text) <= 400 {
			t.Error(text, longer.text())
		}
		if is := checkTextRule(t, abc(), text); is {
			t.Error(text)
		}
	}
	for _, size := range []int{399, 400, 401, 100000} {
		for _, piece := range []string{" -> ", "f2 -> ", "f1(", "x", " ", "f2", "-"} {
			long := strings.Repeat(piece, size)[:size]
			for _, text := range []string{long, "f2 -> " + long[6:], long[6:] + " -> f2"} {
				if got, is := impl.TextRule(abc(), text); is || len(got.L)+len(got.R) != 0 {
					t.Error(size, piece, got)
				}
			}
		}
	}
}

func TestRuleTextsForSignatures(t *testing.T) {
	for first := range int64(4) {
		for second := range int64(4) {
			sig := impl.Sig{Arity: []int64{first, second}}
			if is := checkTextRule(t, sig, "f1(x0) -> f0(x0,x0)"); is != (first == 2 && second == 1) {
				t.Error(sig.Arity, is)
			}
		}
	}
	for _, sig := range badSigs() {
		for _, s := range []string{"", "f0 -> f0", "f2 -> f2", "f1(x0) -> x0", "f0(x0,x0) -> x0", " -> "} {
			if got, is := impl.TextRule(sig, s); is || len(got.L)+len(got.R) != 0 {
				t.Error(sig.Arity, s, got)
			}
		}
	}
}

func TestRuleTextOfNoRules(t *testing.T) {
	for _, x := range badRules() {
		if got := impl.RuleText(x.sig, x.rule); got != "" {
			t.Error(x.name, x.sig.Arity, got)
		}
		// Their sides may be terms, but the text of both is not one of a rule.
		s := impl.TermText(x.sig, x.rule.L) + " -> " + impl.TermText(x.sig, x.rule.R)
		if got, is := impl.TextRule(x.sig, s); is || len(got.L)+len(got.R) != 0 {
			t.Error(x.name, x.sig.Arity, s, got)
		}
	}
	for _, nums := range slicesOf([]int64{-25, -1, 0, 1, 2, 3}, 3) {
		for _, other := range [][]int64{{2}, {-1}, {1, -1}, nil} {
			for _, r := range []impl.Rule{{L: nums, R: other}, {L: other, R: nums}, {L: nums, R: slices.Clone(nums)}} {
				if got := impl.RuleText(abc(), r); (got != "") != impl.RuleOk(abc(), r) {
					t.Fatal(r, got)
				}
			}
		}
	}
}
