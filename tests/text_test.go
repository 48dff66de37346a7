package tests

import (
	"slices"
	"strings"
	"testing"

	"loop.example/g00895/impl"
)

// A textCase is a term of a signature and its text.
type textCase struct {
	sig  impl.Sig
	nums []int64
	text string
}

func textCases() []textCase {
	one, constants := impl.Sig{Arity: []int64{3}}, impl.Sig{Arity: make([]int64, 8)}
	return []textCase{
		{abc(), []int64{0, 1, 0, -1, 2, -13}, "f0(f1(f0(x0,f2)),x12)"},
		// A variable alone, with a number of one and of two digits.
		{abc(), []int64{-1}, "x0"},
		{abc(), []int64{-10}, "x9"},
		{abc(), []int64{-11}, "x10"},
		{abc(), []int64{-20}, "x19"},
		{abc(), []int64{-21}, "x20"},
		{abc(), []int64{-24}, "x23"},
		{one, []int64{-24}, "x23"},
		// A symbol without arguments.
		{abc(), []int64{2}, "f2"},
		{constants, []int64{0}, "f0"},
		{constants, []int64{7}, "f7"},
		// Arguments, and arguments of arguments.
		{abc(), []int64{1, 2}, "f1(f2)"},
		{abc(), []int64{1, -24}, "f1(x23)"},
		{abc(), []int64{1, 1, 1, -2}, "f1(f1(f1(x1)))"},
		{abc(), []int64{0, 2, -1}, "f0(f2,x0)"},
		{abc(), []int64{0, -1, -1}, "f0(x0,x0)"},
		{abc(), []int64{0, 0, -1, 2, 1, -24}, "f0(f0(x0,f2),f1(x23))"},
		{abc(), []int64{0, -11, 0, -12, -2}, "f0(x10,f0(x11,x1))"},
		{one, []int64{0, -1, -2, -3}, "f0(x0,x1,x2)"},
		{one, []int64{0, 0, -1, -1, -1, -1, 0, -24, -1, -11}, "f0(f0(x0,x0,x0),x0,f0(x23,x0,x10))"},
		{wide(), []int64{7, 6, 7, 0, -1, 2, -3, 4, 5, 3, 2}, "f7(f6(f7(f0,x0,f2)),x2,f4(f5,f3,f2))"},
		// As many elements as a term may have.
		{abc(), nested(60), strings.Repeat("f1(", 59) + "f2" + strings.Repeat(")", 59)},
		{abc(), append(nested(60)[:59], -24), strings.Repeat("f1(", 59) + "x23" + strings.Repeat(")", 59)},
		{abc(), comb(59), strings.Repeat("f0(f2,", 29) + "x23" + strings.Repeat(")", 29)},
		{wide(), wideTerm(58), strings.Repeat("f7(f0,f0,", 19) + "f0" + strings.Repeat(")", 19)},
	}
}

func TestTermsAndTheirTexts(t *testing.T) {
	for _, c := range textCases() {
		if got := impl.TermText(c.sig, c.nums); got != c.text {
			t.Error(c.nums, got, c.text)
		}
		if got, is := impl.TextTerm(c.sig, c.text); !is || !slices.Equal(got, c.nums) {
			t.Error(c.text, got, is, c.nums)
		}
	}
	if impl.MaxText != 400 {
		t.Error(impl.MaxText)
	}
}

// checkTermText checks both ways between a tree and its text.
func checkTermText(t *testing.T, sig impl.Sig, x tree) {
	t.Helper()
	text := impl.TermText(sig, x.notation())
	if text != x.text() {
		t.Fatal(sig.Arity, x.notation(), text, x.text())
	}
	if got, is := impl.TextTerm(sig, text); !is || !slices.Equal(got, x.notation()) {
		t.Fatal(sig.Arity, text, got, is)
	}
}

// checkTextTerm checks what TextTerm makes of a text, whether it is one of a term
// or not.
func checkTextTerm(t *testing.T, sig impl.Sig, s string) (is bool) {
	t.Helper()
	x, want := readTree(sig, s)
	got, is := impl.TextTerm(sig, s)
	if is != want || is && !slices.Equal(got, x.notation()) || !is && len(got) != 0 {
		t.Fatalf("%v %q: %v, %v; %v, %v", sig.Arity, s, got, is, x.notation(), want)
	}
	if is && impl.TermText(sig, got) != s {
		t.Fatalf("%v %q: %v, %q", sig.Arity, s, got, impl.TermText(sig, got))
	}
	return is
}

// P10 for all small terms.
func TestTextsOfSmallTerms(t *testing.T) {
	for _, s := range signedTrees(6) {
		checkTermText(t, s.sig, s.x)
	}
	for _, x := range smallTrees([]int64{-2, -10, -11, -24}, 4) {
		checkTermText(t, abc(), x)
	}
	for size := int64(1); size <= 4; size++ {
		for _, x := range treesOf(wide(), []int64{-1, -20}, size) {
			checkTermText(t, wide(), x)
		}
	}
}

// P10 for long terms, up to as many elements as a term may have.
func TestTextsOfLongTerms(t *testing.T) {
	m := makerOf(10)
	for _, sig := range []impl.Sig{abc(), wide(), {Arity: []int64{0, 3, 1}}, {Arity: []int64{1, 2, 0}}} {
		for size := int64(1); size <= 60; size++ {
			for range 10 {
				checkTermText(t, sig, m.tree(sig, size))
			}
		}
	}
	for at, nums := range [][]int64{allVars(), impl.Renamed(abc(), allVars())} {
		if got, is := impl.TextTerm(abc(), impl.TermText(abc(), nums)); !is || !slices.Equal(got, nums) {
			t.Error(at, got, is)
		}
	}
}

// Of all short texts exactly those are accepted that are written for a tree.
func TestAllShortTextsOfTerms(t *testing.T) {
	for _, sig := range []impl.Sig{abc(), {Arity: []int64{0, 0, 3}}, {Arity: []int64{1}}} {
		texts := map[string]tree{}
		for size := int64(1); size <= 4; size++ {
			for _, x := range treesOf(sig, []int64{-1}, size) {
				texts[x.text()] = x
			}
		}
		accepted := 0
		for _, s := range textsOf([]string{"x0", "f0", "f1", "f2", "(", ",", ")"}, 6) {
			x, want := texts[s]
			got, is := impl.TextTerm(sig, s)
			if is != want || is && !slices.Equal(got, x.notation()) || !is && len(got) != 0 {
				t.Fatal(sig.Arity, s, got, is)
			}
			if is {
				accepted++
			}
		}
		if accepted < 2 {
			t.Fatal(sig.Arity, accepted)
		}
	}
	for _, s := range textsOf(strings.Split("xf012(), -", ""), 5) {
		checkTextTerm(t, impl.Sig{Arity: []int64{0, 1}}, s)
	}
}

func TestTextsThatAreAlmostOfTerms(t *testing.T) {
	groups := map[string][]string{
		"a blank":               {" f2", "f2 ", "f 2", "x 0", "f1 (f2)", "f1( f2)", "f1(f2 )", "f1(f2) ", "f0(f2, f2)", "f0(f2 ,f2)", "f2\t", "\nf2", "f2\n", "f2\r\n"},
		"a comma":               {",f2", "f2,", "x0,", "f1(,f2)", "f1(f2,)", "f1(f2),", "f0(f2f2)", "f0(f2 f2)", "f0(f2,,f2)", "f0(,f2,f2)", "f0(f2,f2,)", "f0,(f2,f2)", "f0(f2;f2)", "f0(f2.f2)"},
		"a parenthesis":         {"(f2)", "f2(", "f2)", "f2()", "x0()", "(x0)", "f1()", "f0()", "f0(,)", "f1f2", "f1f2)", "f1(f2", "f1(f2))", "f1((f2))", "f1(f2()", "f0f2,f2", "f0(f2,f2", "f0f2,f2)", "f0(f2,f2))", "f0(f2),f2", "f0(f2,(f2))", "f0((f2,f2))", "f0(f2)(f2)", "f1(f1(f2)", "f1)f2(", "f1[f2]", "f1{f2}", "f1<f2>"},
		"a leading zero":        {"f02", "f002", "x00", "x01", "x010", "f1(f02)", "f0(x0,x09)", "f01(f2)"},
		"a sign":                {"x-1", "x-0", "x+1", "f-1", "f+2", "-x1", "+f2", "f-24", "x-24", "f1(x-1)", "f1(f-1)", "-1", "+2"},
		"another number format": {"x0x1", "x0b1", "x1_0", "x1e1", "x1.0", "f2.", "f0x2", "x1h", "x1'0"},
		"a number too great":    {"x24", "x25", "x99", "x100", "x230", "f3", "f7", "f8", "f10", "f20", "f22", "f1(x24)", "f1(f3)", "f0(f2,x24)"},
		"a number that wraps":   {"x4294967296", "f4294967298", "x18446744073709551616", "f18446744073709551618", "x18446744073709551615", "f18446744073709551615", "x9223372036854775807", "x9223372036854775808", "x-9223372036854775808", "f-9223372036854775808", "x256", "f258", "x65536"},
		"too few arguments":     {"f0", "f1", "f0(f2)", "f0(x0)", "f1(f1)", "f0(f1(f2))", "f0(f2,f1)", "f0(f1,f2)"},
		"too many arguments":    {"f2(f2)", "x0(f2)", "f1(f2,f2)", "f0(f2,f2,f2)", "f0(f2,f2(x0))", "f1(x0,x1)"},
		"more behind the end":   {"f2f2", "f2x0", "x0x0", "x0f2", "f22", "f2 f2", "f2,f2", "f1(f2)f2", "f1(f2),f2", "f1(f2)x0", "f2\x00", "f1(f2)-", "f2->f2", "f2 -> f2", "x0="},
		"nothing":               {"", " ", "-", "()", ",", "(", ")", "\x00", "0", "2"},
		"a word alone":          {"f", "x", "f1(f)", "f1(x)", "f1(2)", "f0(f2,)", "fx0", "xf2", "ff2", "xx0", "2f", "0x", "f(2)", "x(0)"},
		"another letter":        {"X0", "F2", "F1(f2)", "f1(X0)", "f1(F2)", "y0", "a", "g2", "f1(y0)"},
		"bytes that are no ASCII": {"f２", "x０", "ｘ0", "x٣", "f1（f2）", "f0(f2，f2)", "f2\u00a0", "\ufefff2", "f2\x80", "\xfff2",
			"f1(f2\xff)", "f1(\xc3f2)", "\x80", "\xff", "\u0660", "x\xb2", "x²", "f1(x\u0661)", "\u04450"},
	}
	for name, group := range groups {
		for _, s := range group {
			if got, is := impl.TextTerm(abc(), s); is || len(got) != 0 {
				t.Errorf("%s: %q is the text of no term: %v", name, s, got)
			}
			checkTextTerm(t, abc(), s)
		}
	}
	// A symbol and a variable are told apart by the letter, not by the sign.
	for _, sig := range []impl.Sig{{Arity: []int64{0}}, {Arity: make([]int64, 8)}} {
		for _, s := range []string{"x-1", "x-2", "x-8", "f-1", "f-2", "f-24"} {
			if got, is := impl.TextTerm(sig, s); is || len(got) != 0 {
				t.Error(sig.Arity, s, got)
			}
		}
	}
}

// Every number that is written behind a letter, also with zeros in front.
func TestNumbersInTexts(t *testing.T) {
	sigs := []impl.Sig{abc(), wide(), {Arity: []int64{0}}, {Arity: make([]int64, 8)}}
	for n := range 1100 {
		for _, zeros := range []string{"", "0", "00"} {
			s := zeros + variable(int64(n)).text()[1:]
			for _, sig := range sigs {
				if is := checkTextTerm(t, sig, "x"+s); is != (zeros == "" && n < 24) {
					t.Error(sig.Arity, "x"+s, is)
				}
				if is := checkTextTerm(t, sig, "f"+s); is != (zeros == "" && n < len(sig.Arity) && sig.Arity[n] == 0) {
					t.Error(sig.Arity, "f"+s, is)
				}
			}
		}
	}
	for digits := range 450 {
		for _, s := range []string{strings.Repeat("0", digits) + "2", "2" + strings.Repeat("0", digits), strings.Repeat("9", digits)} {
			if is := checkTextTerm(t, abc(), "f"+s); is != (s == "2") {
				t.Error("f"+s, is)
			}
			if is := checkTextTerm(t, abc(), "x"+s); is != (s == "2" || s == "20" || s == "9") {
				t.Error("x"+s, is)
			}
		}
	}
}

// A text with a change in one place is mostly the text of no term, and otherwise
// that of another one.
func TestChangedTextsOfTerms(t *testing.T) {
	accepted := 0
	check := func(sig impl.Sig, x tree) {
		for _, s := range almost(x.text()) {
			if checkTextTerm(t, sig, s) {
				accepted++
			}
		}
	}
	for _, x := range smallTrees([]int64{-1, -11}, 4) {
		check(abc(), x)
	}
	m := makerOf(11)
	for _, sig := range []impl.Sig{abc(), wide(), {Arity: []int64{0, 3, 1}}} {
		for _, size := range []int64{5, 8, 20, 58, 59, 60} {
			check(sig, m.tree(sig, size))
		}
	}
	if accepted < 1000 {
		t.Fatal("too few of the texts are texts of terms", accepted)
	}
}

// Which texts are accepted depends on the signature.
func TestTextsForSignatures(t *testing.T) {
	for first := range int64(4) {
		for second := range int64(4) {
			sig := impl.Sig{Arity: []int64{first, second}}
			for _, s := range []string{"f0", "f1", "f0(x0)", "f1(x0)", "f0(x0,x0)", "f1(x0,x0)", "f0(x0,x0,x0)", "f1(x0,x0,x0)"} {
				arity := strings.Count(s, "x")
				want := first == int64(arity)
				if s[1] == '1' {
					want = second == int64(arity)
				}
				if is := checkTextTerm(t, sig, s); is != want {
					t.Error(sig.Arity, s, is)
				}
			}
		}
	}
	for _, sig := range badSigs() {
		for _, s := range []string{"", "x0", "f0", "f1(f2)", "f0(x0)", "f0(x0,x0)", "f0(f2,x0)"} {
			if got, is := impl.TextTerm(sig, s); is || len(got) != 0 {
				t.Error(sig.Arity, s, got)
			}
		}
	}
}

// A term has at most MaxTerm elements, and no text of one has MaxText bytes.
func TestTextsOfTermsUpToTheLimit(t *testing.T) {
	longest := 0
	for high := range 130 {
		for _, end := range []tree{{head: 2}, variable(5), variable(23)} {
			s := tower(high, end).text()
			if is := checkTextTerm(t, abc(), s); is != (high <= 59) {
				t.Error(high, s, is)
			} else if is {
				longest = max(longest, len(s))
			}
		}
	}
	for pairs := range 60 {
		s := rowOf(pairs+1, func(i int64) tree { return variable(23) }).text()
		if is := checkTextTerm(t, abc(), s); is != (pairs <= 29) {
			t.Error(pairs, s, is)
		}
	}
	if longest != 239 {
		t.Error(longest)
	}
	for _, size := range []int{399, 400, 401, 402, 100000} {
		for _, s := range []string{"x", "f", "(", ")", ",", " ", "0", "x0", "f2,", "f1(", "f1(f2)", "\xff"} {
			long := strings.Repeat(s, size)[:size]
			for _, text := range []string{long, "f2" + long[2:], long[2:] + "f2", "f1(" + long[4:] + ")"} {
				if got, is := impl.TextTerm(abc(), text); is || len(got) != 0 {
					t.Error(size, s, got)
				}
			}
		}
	}
}

func TestTermTextOfNoTerms(t *testing.T) {
	for _, x := range noTerms() {
		if got := impl.TermText(x.sig, x.nums); got != "" {
			t.Error(x.name, x.sig.Arity, got)
		}
	}
	for _, nums := range slicesOf([]int64{-25, -24, -1, 0, 1, 2, 3}, 4) {
		if got := impl.TermText(abc(), nums); (got != "") != impl.TermOk(abc(), nums) {
			t.Fatal(nums, got)
		}
	}
}

// No two terms have one text, and no two texts one term.
func TestTextsOfTermsDiffer(t *testing.T) {
	terms := map[string]string{}
	for _, x := range smallTrees([]int64{-1, -2, -11}, 5) {
		s := impl.TermText(abc(), x.notation())
		if other, given := terms[s]; given {
			t.Fatal(s, other, x.key())
		}
		terms[s] = x.key()
	}
}
