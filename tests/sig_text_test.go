package tests

import (
	"slices"
	"strings"
	"testing"

	"loop.example/g00895/impl"
)

// allSigs returns every valid signature.
func allSigs() []impl.Sig {
	var found []impl.Sig
	for _, arity := range slicesOf([]int64{0, 1, 2, 3}, impl.MaxSyms)[1:] {
		found = append(found, impl.Sig{Arity: arity})
	}
	return found
}

// checkTextSig checks what TextSig makes of a text, whether it is one of a
// signature or not.
func checkTextSig(t *testing.T, s string) (is bool) {
	t.Helper()
	got, is := impl.TextSig(s)
	if is != isSigText(s) || !is && len(got.Arity) != 0 {
		t.Fatalf("%q: %v, %v", s, got, is)
	}
	if is && impl.SigText(got) != s {
		t.Fatalf("%q: %v, %q", s, got, impl.SigText(got))
	}
	return is
}

func TestSignaturesAndTheirTexts(t *testing.T) {
	cases := []struct {
		arity []int64
		text  string
	}{
		{[]int64{2, 1, 0}, "2 1 0"},
		{[]int64{0}, "0"},
		{[]int64{3}, "3"},
		{[]int64{0, 0}, "0 0"},
		{[]int64{1, 2, 3}, "1 2 3"},
		{[]int64{0, 3, 0, 0, 3, 0, 1, 3}, "0 3 0 0 3 0 1 3"},
		{make([]int64, 8), "0 0 0 0 0 0 0 0"},
		{slices.Repeat([]int64{3}, 8), "3 3 3 3 3 3 3 3"},
	}
	for _, c := range cases {
		if got := impl.SigText(impl.Sig{Arity: c.arity}); got != c.text {
			t.Error(c.arity, got, c.text)
		}
		if got, is := impl.TextSig(c.text); !is || !slices.Equal(got.Arity, c.arity) {
			t.Error(c.text, got, is)
		}
	}
}

// P10 for every signature. No two of them have one text.
func TestTextsOfAllSignatures(t *testing.T) {
	seen := map[string]bool{}
	for _, sig := range allSigs() {
		s := impl.SigText(sig)
		for i, arity := range sig.Arity {
			if len(s) != 2*len(sig.Arity)-1 || s[2*i] != "0123"[arity] {
				t.Fatal(sig.Arity, s)
			}
		}
		if got, is := impl.TextSig(s); !is || !slices.Equal(got.Arity, sig.Arity) || seen[s] {
			t.Fatal(s, got, is)
		}
		checkTextSig(t, s)
		seen[s] = true
	}
	if len(seen) != 87380 {
		t.Error(len(seen))
	}
}

func TestTextsThatAreAlmostOfSignatures(t *testing.T) {
	groups := map[string][]string{
		"nothing":                 {"", " ", "  ", "-", "\x00", "\n"},
		"a blank":                 {" 2", "2 ", "2  1", " 2 1 0", "2 1 0 ", "2 1  0", "2\t1\t0", "2\n1\n0", "2 1 0\n", "2\u00a01", "21", "210", "2 10"},
		"a comma":                 {"2,1,0", "2, 1, 0", "2 1,0", ",2", "2,", "2;1"},
		"a parenthesis":           {"(2 1 0)", "2 (1) 0", "[2 1 0]", "2)", "(2"},
		"a leading zero":          {"00", "02", "2 01 0", "2 1 00", "000"},
		"a sign":                  {"-1", "+1", "-0", "2 -1 0", "2 +1 0", "2 1 -0", "- 1"},
		"a number too great":      {"4", "2 4 0", "2 1 4", "10", "2 1 10", "13", "4294967298", "2 4294967297 0", "18446744073709551618", "9223372036854775807", "9223372036854775808", "-9223372036854775808", "256"},
		"too many symbols":        {"0 0 0 0 0 0 0 0 0", "2 1 0 2 1 0 2 1 0", "3 3 3 3 3 3 3 3 3 3"},
		"another number format":   {"0x1", "0b1", "1e0", "1.0", "1_0", "0_1", "1h", "x", "f2", "two", "0o1"},
		"capital letters":         {"X", "2 A 0", "2 1 O"},
		"bytes that are no ASCII": {"２", "2 １ 0", "٢", "2 1 0\x80", "\xff", "²", "\ufeff2 1 0", "2\u20031"},
		"more behind the end":     {"2 1 0 x", "2 1 0 -", "2 1 0.", "2 1 0\x00", "2 1 0 f2"},
	}
	for name, group := range groups {
		for _, s := range group {
			if got, is := impl.TextSig(s); is || len(got.Arity) != 0 {
				t.Errorf("%s: %q is the text of no signature: %v", name, s, got)
			}
			checkTextSig(t, s)
		}
	}
}

func TestAllShortTextsOfSignatures(t *testing.T) {
	for _, s := range textsOf(strings.Split("01234 -+9,", ""), 5) {
		checkTextSig(t, s)
	}
	for _, s := range textsOf([]string{"0", "3", "4", " "}, 9) {
		checkTextSig(t, s)
	}
}

func TestChangedTextsOfSignatures(t *testing.T) {
	for i, sig := range allSigs() {
		if i < 84 || i%4000 == 0 {
			for _, s := range almost(impl.SigText(sig)) {
				checkTextSig(t, s)
			}
		}
	}
}

func TestSigTextsUpToTheLimits(t *testing.T) {
	for symbols := range 300 {
		for _, piece := range []string{"0 ", "3 "} {
			s := strings.TrimSuffix(strings.Repeat(piece, symbols), " ")
			if is := checkTextSig(t, s); is != (symbols >= 1 && symbols <= 8) {
				t.Error(symbols, is)
			}
		}
	}
	for arity := int64(-20); arity <= 20; arity++ {
		sig := impl.Sig{Arity: []int64{2, arity, 0}}
		if got := impl.SigText(sig); (got != "") != (arity >= 0 && arity <= 3) {
			t.Error(arity, got)
		}
	}
	for _, size := range []int{399, 400, 401, 402, 100000} {
		for _, piece := range []string{" ", "0", "2 ", "x", "\xff", "-"} {
			long := strings.Repeat(piece, size)[:size]
			for _, s := range []string{long, "2" + long[1:], long[1:] + "2"} {
				if is := checkTextSig(t, s); is {
					t.Error(size, piece)
				}
			}
		}
	}
}

func TestSigTextOfNoSignatures(t *testing.T) {
	for _, sig := range badSigs() {
		if got := impl.SigText(sig); got != "" {
			t.Error(sig.Arity, got)
		}
	}
	for _, arity := range slicesOf([]int64{-1, 0, 3, 4}, 5) {
		sig := impl.Sig{Arity: arity}
		if got := impl.SigText(sig); (got != "") != impl.SigOk(sig) {
			t.Fatal(arity, got)
		}
	}
}
