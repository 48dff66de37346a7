package tests

import (
	"strconv"
	"strings"

	"loop.example/g00895/impl"
)

// text returns the text of x, one mark in front of each argument. What the tests
// expect of texts is computed from trees, never from the prefix notation.
func (x tree) text() string {
	if x.head < 0 {
		return "x" + strconv.FormatInt(-1-x.head, 10)
	}
	text := "f" + strconv.FormatInt(x.head, 10)
	for i, arg := range x.args {
		text += []string{"(", ",", ","}[i] + arg.text()
	}
	if len(x.args) > 0 {
		text += ")"
	}
	return text
}

func (x ruling) text() string { return x.l.text() + " -> " + x.r.text() }

// text returns the text of the substitution that f is.
func (f filling) text() string {
	var parts []string
	for i := range int64(impl.MaxVars) {
		if f.isMove(i) {
			parts = append(parts, variable(i).text()+"="+f.of(i).text())
		}
	}
	if len(parts) == 0 {
		return "-"
	}
	return strings.Join(parts, " ")
}

// A reading is what is left of a text that is read from left to right. It tells
// of any text whether it is one of a tree, by taking one byte after the other.
type reading struct {
	sig  impl.Sig
	left string
}

// take moves past the text s and reports whether it stands here.
func (r *reading) take(s string) bool {
	rest, is := strings.CutPrefix(r.left, s)
	r.left = rest
	return is
}

// number moves past all digits that stand here, and reports whether they are a
// number as it is written. No number of a tree has three digits.
func (r *reading) number() (int64, bool) {
	n, digits := int64(0), 0
	for ; len(r.left) > 0 && r.left[0] >= '0' && r.left[0] <= '9' && digits < 3; digits++ {
		n = 10*n + int64(r.left[0]-'0')
		r.left = r.left[1:]
	}
	return n, digits == 1 || digits == 2 && n > 9
}

// tree moves past the text of a tree and reports whether it stands here.
func (r *reading) tree() (tree, bool) {
	if r.take("x") {
		i, is := r.number()
		return variable(i), is && i < impl.MaxVars
	}
	isSymbol := r.take("f")
	head, is := r.number()
	if !isSymbol || !is || head >= int64(len(r.sig.Arity)) {
		return tree{}, false
	}
	x := tree{head: head}
	for i := range r.sig.Arity[head] {
		if !r.take([]string{"(", ",", ","}[i]) {
			return tree{}, false
		}
		arg, is := r.tree()
		if !is {
			return tree{}, false
		}
		x.args = append(x.args, arg)
	}
	return x, len(x.args) == 0 || r.take(")")
}

// readTree returns the tree whose text is s, and whether there is one. The
// signature must be valid.
func readTree(sig impl.Sig, s string) (tree, bool) {
	r := reading{sig, s}
	x, is := r.tree()
	return x, is && r.left == "" && x.size() <= impl.MaxTerm
}

// readRuling returns the rule whose text is s, and whether there is one.
func readRuling(sig impl.Sig, s string) (ruling, bool) {
	r := reading{sig, s}
	l, is := r.tree()
	if !is || !r.take(" -> ") || l.size() > impl.MaxTerm {
		return ruling{}, false
	}
	right, is := readTree(sig, r.left)
	x := ruling{l, right}
	return x, is && x.isRule() && len(s) <= impl.MaxText
}

// isSigText reports whether s is the text of a signature: a digit, then a blank
// and a digit as often as there is another symbol.
func isSigText(s string) bool {
	for i := range len(s) {
		if i%2 == 0 && (s[i] < '0' || s[i] > '3') || i%2 == 1 && s[i] != ' ' {
			return false
		}
	}
	return len(s)%2 == 1 && len(s) < 2*impl.MaxSyms
}

// somePieces are put into texts to spoil them: what texts consist of, and bytes
// that none contains.
func somePieces() []string {
	return append(strings.Split("xfXFy0123456789 (,)[];=->+_.'\"\t\n\r\v\x00\x7f\x80\xc3\xff", ""),
		"é", "０", "٣", "ｘ", "（", "，", "\u00a0", "\ufeff", "\u2192", "f2", "x0", "()", ",f2", ",x0", "(f2)", "  ", " -> ", "->", "00", "10", "-1")
}

// almost returns texts that differ from s in one place: a byte is left out, twice
// there or another one, a piece is put in, two bytes are exchanged, or the text
// ends there or begins there.
func almost(s string) []string {
	found := []string{s + s}
	for at := range len(s) {
		before, here, behind := s[:at], s[at:at+1], s[at+1:]
		found = append(found, before, here+behind, before+behind, before+here+here+behind, before+strings.ToUpper(here)+behind)
		for _, piece := range somePieces() {
			found = append(found, before+piece+behind, before+piece+here+behind)
		}
		if behind != "" {
			found = append(found, before+behind[:1]+here+behind[1:])
		}
	}
	for _, piece := range somePieces() {
		found = append(found, s+piece)
	}
	return found
}

// textsOf returns every text of at most so many of the pieces.
func textsOf(pieces []string, most int) []string {
	found := []string{""}
	last := found
	for range most {
		var longer []string
		for _, s := range last {
			for _, piece := range pieces {
				longer = append(longer, s+piece)
			}
		}
		found = append(found, longer...)
		last = longer
	}
	return found
}
