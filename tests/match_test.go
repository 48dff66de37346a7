package tests

import (
	"slices"
	"testing"

	"loop.example/g00895/impl"
)

// everyPlace returns the indices of so many numbers.
func everyPlace(size int64) []int64 {
	var found []int64
	for at := range size {
		found = append(found, at)
	}
	return found
}

// twice is f0(t,t).
func twice(t []int64) []int64 { return slices.Concat([]int64{0}, t, t) }

// combOn is the comb of 59 elements with another term instead of its variable.
func combOn(t ...int64) []int64 { return append(comb(59)[:58], t...) }

func TestMatched(t *testing.T) {
	cases := []struct {
		sig  impl.Sig
		p, t []int64
		want impl.Subst
	}{
		{abc(), []int64{0, -1, 1, -3}, []int64{0, 2, 1, 1, -1}, substOf([]int64{2}, nil, []int64{1, -1})},
		{abc(), []int64{2}, []int64{2}, substOf()},
		{abc(), []int64{0, 1, 2, 2}, []int64{0, 1, 2, 2}, substOf()},
		{abc(), []int64{0, -2, 0, 1, -1, -24}, []int64{0, 2, 0, 1, 1, 2, 0, 2, 2}, substOf(append([][]int64{{1, 2}, {2}}, only(21, []int64{0, 2, 2}).Terms...)...)},
		// The pattern is a variable.
		{abc(), []int64{-1}, big(), substOf(big())},
		{abc(), []int64{-24}, []int64{2}, only(23, []int64{2})},
		{abc(), []int64{-5}, []int64{-1}, only(4, []int64{-1})},
		{abc(), []int64{-1}, []int64{-24}, substOf([]int64{-24})},
		// A variable occurs more than once.
		{abc(), []int64{0, -1, -1}, []int64{0, 2, 2}, substOf([]int64{2})},
		{abc(), []int64{0, -3, 0, -3, -3}, []int64{0, 1, 2, 0, 1, 2, 1, 2}, only(2, []int64{1, 2})},
		{abc(), []int64{0, 0, -1, -2, 0, -2, -1}, []int64{0, 0, 2, -5, 0, -5, 2}, substOf([]int64{2}, []int64{-5})},
		{abc(), []int64{0, -2, -2}, []int64{0, -1, -1}, substOf(nil, []int64{-1})},
		// The pattern and the term share variables.
		{abc(), []int64{0, -1, -2}, []int64{0, -2, -1}, substOf([]int64{-2}, []int64{-1})},
		{abc(), []int64{1, -1}, []int64{1, 1, -1}, substOf([]int64{1, -1})},
		{abc(), []int64{0, -1, -2}, []int64{0, 0, -1, -2, 1, -2}, substOf([]int64{0, -1, -2}, []int64{1, -2})},
		{abc(), []int64{0, -1, 0, -2, -3}, []int64{0, -2, 0, -3, -1}, substOf([]int64{-2}, []int64{-3}, []int64{-1})},
		// A variable is matched with itself.
		{abc(), []int64{-1}, []int64{-1}, substOf()},
		{abc(), []int64{-24}, []int64{-24}, substOf()},
		{abc(), []int64{0, -1, -2}, []int64{0, -1, 2}, substOf(nil, []int64{2})},
		{abc(), []int64{0, -1, -2}, []int64{0, 2, -2}, substOf([]int64{2})},
		{abc(), []int64{0, -1, -1}, []int64{0, -1, -1}, substOf()},
		{abc(), []int64{0, -1, 0, -2, -1}, []int64{0, -1, 0, -1, -1}, substOf(nil, []int64{-1})},
		{abc(), big(), big(), substOf()},
		{abc(), allVars(), allVars(), substOf()},
		// Up to MaxTerm numbers and MaxVars variables.
		{abc(), []int64{-1}, nested(60), substOf(nested(60))},
		{abc(), []int64{1, -2}, nested(60), substOf(nil, nested(59))},
		{abc(), nested(60), nested(60), substOf()},
		{abc(), append(nested(60)[:59], -1), nested(60), substOf([]int64{2})},
		{abc(), append(nested(60)[:59], -1), append(nested(60)[:59], -24), substOf([]int64{-24})},
		{abc(), comb(59), comb(59), substOf()},
		{abc(), comb(59), combOn(1, 2), only(23, []int64{1, 2})},
		{abc(), combOn(-1), comb(59), substOf([]int64{-24})},
		{abc(), []int64{0, -1, -1}, twice(nested(29)), substOf(nested(29))},
		{abc(), allVars(), impl.Renamed(abc(), allVars()), reversal()},
		{abc(), append(allVars()[:46], 1, -1), append(allVars()[:46], nested(14)...), substOf(nested(13))},
		{wide(), []int64{7, -1, 0, -2}, []int64{7, 6, 3, 0, 4, 0, 0, -1}, substOf([]int64{6, 3}, []int64{4, 0, 0, -1})},
		{wide(), wideTerm(58), wideTerm(58), substOf()},
		{wide(), []int64{7, -2, -2, -1}, wideTerm(58), substOf(wideTerm(55), []int64{0})},
	}
	for _, c := range cases {
		if got, is := impl.Matched(c.sig, c.p, c.t); !is || !equalTerms(got.Terms, c.want.Terms) || !impl.InstanceIn(c.sig, c.p, c.t) {
			t.Error(c.p, c.t, got, is)
		}
		checkMatched(t, c.sig, c.p, c.t)
	}
}

// reversal exchanges the variables at the two ends of all of them, and so on.
func reversal() impl.Subst {
	s := substOf()
	for i := range int64(impl.MaxVars) {
		s.Terms = append(s.Terms, []int64{i - impl.MaxVars})
	}
	return s
}

func TestNotMatched(t *testing.T) {
	cases := []struct {
		sig  impl.Sig
		p, t []int64
	}{
		{abc(), []int64{1, -1}, []int64{2}},
		{abc(), []int64{1, -1}, []int64{0, 2, 2}},
		{abc(), []int64{0, -1, -2}, []int64{1, 2}},
		{abc(), []int64{2}, nested(60)},
		{abc(), nested(60), []int64{2}},
		{abc(), []int64{0, 2, -1}, []int64{0, 1, 2, 2}},
		{abc(), []int64{0, -1, 2}, []int64{0, 2, 1, 2}},
		{abc(), []int64{0, 1, -1, -2}, []int64{0, 0, 2, 2, 2}},
		{wide(), []int64{7, 0, -1, 0}, []int64{7, 0, -1, 2}},
		{wide(), []int64{7, -1, -2, -3}, []int64{4, -1, -2, -3}},
		// Only the variables of the pattern are replaced.
		{abc(), []int64{2}, []int64{-1}},
		{abc(), []int64{1, 2}, []int64{1, -1}},
		{abc(), []int64{1, -1}, []int64{-1}},
		{abc(), []int64{0, 2, -1}, []int64{0, -1, 2}},
		// A variable that occurs more than once is matched with one term.
		{abc(), []int64{0, -1, -1}, []int64{0, 2, 1, 2}},
		{abc(), []int64{0, -1, -1}, []int64{0, 1, 2, 2}},
		{abc(), []int64{0, -1, -1}, []int64{0, 1, 2, 1, 1, 2}},
		{abc(), []int64{0, -1, -1}, []int64{0, -2, -3}},
		{abc(), []int64{0, 0, -1, -2, 0, -2, -1}, []int64{0, 0, 2, -5, 0, 2, -5}},
		// A variable that is matched with itself is no exception.
		{abc(), []int64{0, -1, -1}, []int64{0, -1, 2}},
		{abc(), []int64{0, -1, -1}, []int64{0, 2, -1}},
		{abc(), []int64{0, -1, -1}, []int64{0, -1, -2}},
		{abc(), []int64{0, -1, -1}, []int64{0, -2, -1}},
		{abc(), []int64{0, -24, 0, -2, -24}, []int64{0, -24, 0, 2, 1, 2}},
		{abc(), []int64{0, -1, 0, -1, -1}, []int64{0, -1, 0, -1, 1, -1}},
		// Up to MaxTerm numbers.
		{abc(), nested(60), nested(59)},
		{abc(), nested(59), nested(60)},
		{abc(), nested(60), append(nested(60)[:59], -1)},
		{abc(), []int64{0, -1, -1}, append(twice(nested(29))[:58], -1)},
		{abc(), []int64{0, -1, -1}, append(twice(nested(29))[:58], 1, 2)},
		{abc(), combOn(1, 2), comb(59)},
		{abc(), comb(59), []int64{0, 1, 2, 2}},
		{wide(), wideTerm(58), append(wideTerm(58)[:57], 2)},
	}
	for _, c := range cases {
		if got, is := impl.Matched(c.sig, c.p, c.t); is || len(got.Terms) != 0 || impl.InstanceIn(c.sig, c.p, c.t) {
			t.Error(c.p, c.t, got, is)
		}
	}
}

func TestMatchedOfInvalidArguments(t *testing.T) {
	check := func(name string, sig impl.Sig, p, u []int64) {
		got, is := impl.Matched(sig, p, u)
		if is || len(got.Terms) != 0 || impl.InstanceIn(sig, p, u) || len(impl.EmbedsIn(sig, p, u)) != 0 || impl.MoreGeneral(sig, p, u) {
			t.Fatal(name, sig.Arity, p, u, got, is)
		}
	}
	for _, x := range noTerms() {
		check(x.name, x.sig, x.nums, x.nums)
		for _, nums := range append(someTerms(), nil, []int64{}, []int64{1, -1}, []int64{0, -1, -2}) {
			check(x.name, x.sig, x.nums, nums)
			check(x.name, x.sig, nums, x.nums)
		}
	}
}

// checkMatched checks P4 and what else is said of Matched, with nothing but the
// program's own functions, and reports whether there is a match.
func checkMatched(t *testing.T, sig impl.Sig, p, x []int64) bool {
	t.Helper()
	s, is := impl.Matched(sig, p, x)
	if impl.InstanceIn(sig, p, x) != is || !is && len(s.Terms) != 0 {
		t.Fatal(p, x, s, is)
	}
	if !is {
		return false
	}
	if got, done := impl.Filled(sig, s, p); !done || !slices.Equal(got, x) || !isPlain(s) || !impl.SubstOk(sig, s) {
		t.Fatal(p, x, s, got, done)
	}
	for i, nums := range s.Terms {
		if len(nums) > 0 && !slices.Contains(impl.VarsOf(sig, p), int64(i)) {
			t.Fatal(p, x, s, "replaces variable", i)
		}
	}
	return true
}

// Whether there is a match, and which, is what trying all subterms of the term
// finds.
func TestMatchedOfSmallTerms(t *testing.T) {
	patterns, terms := smallTrees([]int64{-1, -2, -24}, 4), smallTrees([]int64{-1, -2, -24}, 5)
	for _, p := range patterns {
		for _, x := range terms {
			found := p.matchings(x)
			got, is := impl.Matched(abc(), p.notation(), x.notation())
			if is != (len(found) == 1) || is && !equalTerms(got.Terms, found[0].plain().Terms) || !is && len(got.Terms) != 0 {
				t.Fatal(p.notation(), x.notation(), got, is, found)
			}
			if checkMatched(t, abc(), p.notation(), x.notation()) != is {
				t.Fatal(p.notation(), x.notation())
			}
		}
	}
}

// The same with a symbol of the most arguments.
func TestMatchedOfSmallWideTerms(t *testing.T) {
	isNarrow := func(s signed) bool { return !slices.Contains(s.sig.Arity, impl.MaxArity) }
	list := slices.DeleteFunc(signedTrees(5), isNarrow)
	for _, p := range list {
		for _, x := range list {
			got, is := impl.Matched(p.sig, p.x.notation(), x.x.notation())
			found := p.x.matchings(x.x)
			if is != (len(found) == 1) || is && !equalTerms(got.Terms, found[0].plain().Terms) {
				t.Fatal(p.x.notation(), x.x.notation(), got, is)
			}
		}
	}
}

// P4, from the other side: whatever a substitution makes of a pattern is
// matched, by its replacements of the variables of the pattern.
func TestFilledPatternsAreMatched(t *testing.T) {
	patterns := append(smallTrees([]int64{-1, -2, -24}, 4), treesOf(abc(), []int64{-1, -24}, 5)...)
	for _, f := range append(someFillings(), longFillings()...) {
		for _, p := range patterns {
			x := p.filled(f)
			if x.size() > impl.MaxTerm {
				continue
			}
			used := filling{}
			for _, i := range p.vars() {
				used[i] = f.of(i)
			}
			got, is := impl.Matched(abc(), p.notation(), x.notation())
			if !is || !equalTerms(got.Terms, used.plain().Terms) {
				t.Fatal(p.notation(), x.notation(), got, is)
			}
			checkMatched(t, abc(), p.notation(), x.notation())
		}
	}
}

// Terms of every length up to MaxTerm, and no match where one number differs.
func TestMatchedUpToTheLimit(t *testing.T) {
	for size := 1; size <= impl.MaxTerm; size++ {
		for head := range size {
			p := append(slices.Repeat([]int64{1}, head), -24)
			got, is := impl.Matched(abc(), p, nested(size))
			if !is || !equalTerms(got.Terms, only(23, nested(size-head)).Terms) {
				t.Fatal(size, head, got, is)
			}
			checkMatched(t, abc(), p, nested(size))
		}
		for other := 1; other <= impl.MaxTerm; other++ {
			if checkMatched(t, abc(), nested(size), nested(other)) != (size == other) {
				t.Fatal(size, other)
			}
			if 1+size+other <= impl.MaxTerm {
				pair := slices.Concat([]int64{0}, nested(size), nested(other))
				if checkMatched(t, abc(), []int64{0, -1, -1}, pair) != (size == other) || !checkMatched(t, abc(), []int64{0, -1, -2}, pair) {
					t.Fatal(size, other)
				}
			}
		}
	}
	for at := range comb(59) {
		p := comb(59)
		if p[at] == 0 {
			continue
		}
		p[at] = 1
		p = slices.Insert(p, at+1, int64(2))
		if checkMatched(t, abc(), p, comb(59)) || checkMatched(t, abc(), comb(59), p) != (at == 58) {
			t.Fatal(at)
		}
	}
}

func TestEmbedsIn(t *testing.T) {
	cases := []struct {
		sig  impl.Sig
		p, t []int64
		want []int64
	}{
		{abc(), []int64{1, -1}, []int64{0, 1, 1, 2, 1, -1}, []int64{1, 2, 4}},
		{abc(), []int64{2}, []int64{2}, []int64{0}},
		{abc(), []int64{2}, []int64{-1}, nil},
		{abc(), []int64{1, 1, -1}, []int64{1, 2}, nil},
		{abc(), []int64{0, -1, -2}, []int64{1, 2}, nil},
		// A variable has every subterm as an instance.
		{abc(), []int64{-1}, []int64{1, 2}, []int64{0, 1}},
		{abc(), []int64{-24}, big(), everyPlace(6)},
		{abc(), []int64{-1}, []int64{-1}, []int64{0}},
		// What is matched at one position does not count at the next one.
		{abc(), []int64{0, -1, -1}, []int64{0, 2, 0, 1, 2, 1, 2}, []int64{2}},
		{abc(), []int64{0, -1, -1}, []int64{0, 0, 2, 2, 0, 2, 2}, []int64{0, 1, 4}},
		{abc(), []int64{0, -1, -1}, []int64{0, 0, -1, -1, 0, -1, 2}, []int64{1}},
		{abc(), []int64{0, -1, -1}, []int64{0, 0, -1, 2, 0, 2, 2}, []int64{4}},
		{abc(), []int64{0, 1, -1, -1}, []int64{0, 1, 2, 0, 1, 1, 2, 1, 2}, []int64{3}},
		// Up to MaxTerm numbers.
		{abc(), []int64{-1}, nested(60), everyPlace(60)},
		{abc(), []int64{1, -1}, nested(60), everyPlace(59)},
		{abc(), []int64{2}, nested(60), []int64{59}},
		{abc(), []int64{1, 1, 2}, nested(60), []int64{57}},
		{abc(), nested(60), nested(60), []int64{0}},
		{abc(), nested(60), nested(59), nil},
		{abc(), nested(31), nested(60), []int64{29}},
		{abc(), comb(59), comb(59), []int64{0}},
		{abc(), []int64{-24}, comb(59), everyPlace(59)},
		{abc(), []int64{0, 2, 0, 2, -1}, comb(5), []int64{0}},
		{wide(), []int64{7, -1, -1, -2}, wideTerm(10), []int64{0, 3, 6}},
		{wide(), []int64{7, -1, -1, -1}, wideTerm(10), []int64{6}},
	}
	for _, c := range cases {
		if got := impl.EmbedsIn(c.sig, c.p, c.t); !slices.Equal(got, c.want) {
			t.Error(c.p, c.t, got, c.want)
		}
	}
}

func TestEmbedsInOfSmallTerms(t *testing.T) {
	for _, p := range smallTrees([]int64{-1, -24}, 4) {
		for _, x := range smallTrees([]int64{-1, -24}, 5) {
			if got := impl.EmbedsIn(abc(), p.notation(), x.notation()); !slices.Equal(got, p.embeds(x)) {
				t.Fatal(p.notation(), x.notation(), got, p.embeds(x))
			}
		}
	}
}

// P4 at every position: the pattern, filled, is the subterm there, and at the
// other positions no match exists.
func TestEmbeddedPatternsAreMatched(t *testing.T) {
	patterns := append(someTerms(), []int64{1, -1}, []int64{0, -1, -2}, []int64{0, -2, -24}, []int64{0, 2, -1}, []int64{0, -1, 0, -1, -2})
	for _, p := range patterns {
		for _, x := range append(someTerms(), twice(nested(29)), twice(twice([]int64{0, 2, -1})), combOn(1, -1)) {
			var want []int64
			for at := range int64(len(x)) {
				if checkMatched(t, abc(), p, impl.SubAt(abc(), x, at)) {
					want = append(want, at)
				}
			}
			if got := impl.EmbedsIn(abc(), p, x); !slices.Equal(got, want) {
				t.Fatal(p, x, got, want)
			}
		}
	}
}
