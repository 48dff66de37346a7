package tests

import (
	"slices"
	"testing"

	"loop.example/g00895/impl"
)

func TestUnified(t *testing.T) {
	cases := []struct {
		sig  impl.Sig
		a, b []int64
		want impl.Subst
	}{
		{abc(), []int64{0, -1, 1, -2}, []int64{0, 1, -3, -1}, substOf([]int64{1, -2}, nil, []int64{-2})},
		{abc(), []int64{0, -1, -1}, []int64{0, 1, -2, 1, 2}, substOf([]int64{1, 2}, []int64{2})},
		{abc(), []int64{0, -1, 0, -2, 2}, []int64{0, 1, -2, 0, 2, -24}, substOf(append([][]int64{{1, 2}, {2}}, only(21, []int64{2}).Terms...)...)},
		// One of them is an instance of the other.
		{abc(), []int64{1, -1}, []int64{1, 2}, substOf([]int64{2})},
		{abc(), []int64{0, -5, -5}, []int64{0, 1, -1, 1, -1}, only(4, []int64{1, -1})},
		// The same terms and terms without variables.
		{abc(), []int64{2}, []int64{2}, substOf()},
		{abc(), []int64{-1}, []int64{-1}, substOf()},
		{abc(), []int64{-24}, []int64{-24}, substOf()},
		{abc(), big(), big(), substOf()},
		{abc(), []int64{0, 1, 2, 2}, []int64{0, 1, 2, 2}, substOf()},
		{abc(), allVars(), allVars(), substOf()},
		// One of them is a variable.
		{abc(), []int64{-1}, []int64{2}, substOf([]int64{2})},
		{abc(), []int64{-24}, big(), only(23, big())},
		{abc(), []int64{-2}, []int64{1, -1}, substOf(nil, []int64{1, -1})},
		{abc(), []int64{-1}, []int64{1, -2}, substOf([]int64{1, -2})},
		// Variables are identified, and the smallest of them remains.
		{abc(), []int64{-1}, []int64{-24}, only(23, []int64{-1})},
		{abc(), []int64{-3}, []int64{-2}, only(2, []int64{-2})},
		{abc(), []int64{0, -3, -2}, []int64{0, -2, -1}, substOf(nil, []int64{-1}, []int64{-1})},
		{abc(), []int64{0, -1, -2}, []int64{0, -2, -3}, substOf(nil, []int64{-1}, []int64{-1})},
		{abc(), []int64{0, -2, -3}, []int64{0, -3, -1}, substOf(nil, []int64{-1}, []int64{-1})},
		{abc(), []int64{0, -1, -2}, []int64{0, -2, -1}, substOf(nil, []int64{-1})},
		{abc(), []int64{0, -5, 0, -4, -5}, []int64{0, -3, 0, -2, -2}, substOf(nil, nil, []int64{-2}, []int64{-2}, []int64{-2})},
		{abc(), []int64{0, 1, -3, -3}, []int64{0, -1, -2}, substOf([]int64{1, -2}, nil, []int64{-2})},
		// A variable is identified with others before and after it is replaced.
		{abc(), []int64{0, -1, 0, -1, -2}, []int64{0, -2, 0, 2, -3}, substOf([]int64{2}, []int64{2}, []int64{2})},
		{abc(), []int64{0, -1, 0, -2, -3}, []int64{0, 1, -4, 0, -1, -2}, substOf([]int64{1, -4}, []int64{1, -4}, []int64{1, -4})},
		{abc(), []int64{0, -3, 0, -2, -1}, []int64{0, -2, 0, -1, 1, -24}, substOf([]int64{1, -24}, []int64{1, -24}, []int64{1, -24})},
		// Up to MaxTerm numbers and MaxVars variables.
		{abc(), nested(60), nested(60), substOf()},
		{abc(), []int64{-1}, nested(60), substOf(nested(60))},
		{abc(), nested(60), []int64{1, -24}, only(23, nested(59))},
		{abc(), append(nested(60)[:59], -1), append(nested(60)[:59], -2), substOf(nil, []int64{-1})},
		{abc(), combOn(-1), comb(59), only(23, []int64{-1})},
		{abc(), comb(59), combOn(1, -1), only(23, []int64{1, -1})},
		{wide(), []int64{7, -1, 0, -2}, []int64{7, 6, -2, -3, 4, 0, 2, 3}, substOf([]int64{6, 4, 0, 2, 3}, []int64{4, 0, 2, 3}, []int64{0})},
		{wide(), []int64{7, -2, -2, -1}, wideTerm(58), substOf(wideTerm(55), []int64{0})},
	}
	for _, c := range cases {
		for _, pair := range [][2][]int64{{c.a, c.b}, {c.b, c.a}} {
			if got, is := impl.Unified(c.sig, pair[0], pair[1]); !is || !equalTerms(got.Terms, c.want.Terms) {
				t.Error(pair, got, is)
			}
			checkUnified(t, c.sig, pair[0], pair[1])
		}
	}
}

func TestNotUnified(t *testing.T) {
	cases := []struct {
		sig  impl.Sig
		a, b []int64
	}{
		{abc(), []int64{2}, []int64{1, -1}},
		{abc(), []int64{1, -1}, []int64{0, -1, -2}},
		{abc(), []int64{0, 2, -1}, []int64{0, 1, 2, -1}},
		{abc(), []int64{0, -1, 2}, []int64{0, -1, 1, 2}},
		{abc(), []int64{0, -1, -1}, []int64{0, 2, 1, 2}},
		{abc(), []int64{0, -1, 0, -1, -2}, []int64{0, -2, 0, 2, 1, -3}},
		{wide(), []int64{0}, []int64{2}},
		{wide(), []int64{7, -1, -2, -3}, []int64{4, -1, -2, -3}},
		// A variable would be inside its own replacement, at once or in the end.
		{abc(), []int64{-1}, []int64{1, -1}},
		{abc(), []int64{-24}, []int64{0, 2, 1, -24}},
		{abc(), []int64{0, -1, -1}, []int64{0, -2, 1, -2}},
		{abc(), []int64{0, -1, -2}, []int64{0, 1, -2, 1, -1}},
		{abc(), []int64{0, -1, 0, -2, -3}, []int64{0, 1, -2, 0, 1, -3, 1, -1}},
		{abc(), []int64{0, 1, -2, 0, -1, -1}, []int64{0, -1, 0, -3, 1, -3}},
		{abc(), []int64{0, -1, 0, -2, -3}, []int64{0, -2, 0, -3, 0, -1, 2}},
		{abc(), []int64{0, -3, 0, -2, -1}, []int64{0, -2, 0, -1, 1, -3}},
		{abc(), []int64{-24}, comb(59)},
		// Up to MaxTerm numbers.
		{abc(), nested(60), nested(59)},
		{abc(), nested(60), []int64{2}},
		{abc(), nested(60), comb(59)},
		{abc(), append(nested(60)[:59], -1), append(nested(59)[:58], -1)},
		{abc(), []int64{0, -1, -1}, append(twice(nested(29))[:58], 1, 2)},
		{wide(), wideTerm(58), append(wideTerm(58)[:57], 2)},
	}
	for _, c := range cases {
		if checkUnified(t, c.sig, c.a, c.b) || checkUnified(t, c.sig, c.b, c.a) {
			t.Error(c.a, c.b)
		}
	}
}

// checkUnified checks what is said of Unified, other than that the unifier is
// most general, with nothing but the program's own functions, and reports
// whether there is a unifier.
func checkUnified(t *testing.T, sig impl.Sig, a, b []int64) bool {
	t.Helper()
	s, is := impl.Unified(sig, a, b)
	if impl.UnifiesIn(sig, a, b) != is || !is && len(s.Terms) != 0 {
		t.Fatal(a, b, s, is)
	}
	if !is {
		return false
	}
	one, oneDone := impl.Filled(sig, s, a)
	two, twoDone := impl.Filled(sig, s, b)
	if !oneDone || !twoDone || !slices.Equal(one, two) || !impl.SubstOk(sig, s) || !isPlain(s) {
		t.Fatal(a, b, s, one, two)
	}
	if again, done := impl.Composed(sig, s, s); !done || !equalTerms(again.Terms, s.Terms) {
		t.Fatal(a, b, s, "changes its own replacements")
	}
	vars := append(impl.VarsOf(sig, a), impl.VarsOf(sig, b)...)
	for i, nums := range s.Terms {
		if len(nums) > 0 && !slices.Contains(vars, int64(i)) {
			t.Fatal(a, b, s, "replaces variable", i)
		}
		if len(nums) == 1 && nums[0] < 0 && -1-nums[0] >= int64(i) {
			t.Fatal(a, b, s, "does not keep the smaller variable", i)
		}
	}
	return true
}

// checkExactlyUnified checks that Unified returns what the merged classes are.
func checkExactlyUnified(t *testing.T, sig impl.Sig, x, y tree) bool {
	t.Helper()
	want, can := x.unifier(y)
	got, is := impl.Unified(sig, x.notation(), y.notation())
	if is != can || !equalTerms(got.Terms, want.plain().Terms) {
		t.Fatal(x.notation(), y.notation(), got, is, want.plain(), can)
	}
	return checkUnified(t, sig, x.notation(), y.notation())
}

func TestUnifiedOfSmallTerms(t *testing.T) {
	list := smallTrees([]int64{-1, -2, -24}, 4)
	for _, x := range list {
		for _, y := range append(list, treesOf(abc(), []int64{-1, -2}, 5)...) {
			checkExactlyUnified(t, abc(), x, y)
		}
	}
}

// The same with a symbol of the most arguments.
func TestUnifiedOfSmallWideTerms(t *testing.T) {
	isNarrow := func(s signed) bool { return !slices.Contains(s.sig.Arity, impl.MaxArity) }
	list := slices.DeleteFunc(signedTrees(5), isNarrow)
	for _, x := range list {
		for _, y := range list {
			checkExactlyUnified(t, x.sig, x.x, y.x)
		}
	}
}

func TestUnifiedOfLongTerms(t *testing.T) {
	m, unified, not := makerOf(1), 0, 0
	for range 4000 {
		if b, _ := m.blur(false); checkExactlyUnified(t, b.sig, b.x, b.y) {
			unified++
		} else {
			not++
		}
	}
	if unified < 300 || not < 300 {
		t.Fatal("too few of the pairs test much", unified, not)
	}
}

// P5: the unifier of two terms followed by any other unifier is that other one,
// so the other one is an instance of it. And no two terms without a unifier
// become equal.
func TestUnifierIsMostGeneral(t *testing.T) {
	vars := []int64{0, 1, 23}
	list := smallTrees([]int64{-1, -2, -24}, 4)
	for _, f := range fillingsOf(vars, smallTrees([]int64{-1, -2, -24}, 2)) {
		equal := map[string][]tree{}
		for _, x := range list {
			key := x.filled(f).key()
			equal[key] = append(equal[key], x)
		}
		for _, group := range equal {
			for k, x := range group {
				for _, y := range group[k:] {
					checkMoreGeneral(t, abc(), x, y, f)
				}
			}
		}
	}
}

// checkMoreGeneral checks that Unified returns a unifier of x and y of which f
// is an instance.
func checkMoreGeneral(t *testing.T, sig impl.Sig, x, y tree, f filling) {
	t.Helper()
	s, is := impl.Unified(sig, x.notation(), y.notation())
	if !is {
		t.Fatal(x.notation(), y.notation(), "are unified by", f.plain())
	}
	composed, done := impl.Composed(sig, s, f.subst(0))
	if !done || !equalTerms(composed.Terms, f.plain().Terms) {
		t.Fatal(x.notation(), y.notation(), s, "is not more general than", f.plain())
	}
}

// P5 for terms that are made from one long term, with which they are unified.
func TestUnifierIsMostGeneralForLongTerms(t *testing.T) {
	m, fit, long := makerOf(2), 0, 0
	for range 4000 {
		b, f := m.blur(true)
		if is := checkExactlyUnified(t, b.sig, b.x, b.y); b.x.filled(f).size() <= impl.MaxTerm {
			checkMoreGeneral(t, b.sig, b.x, b.y, f)
			fit++
		} else if !is {
			long++
		}
	}
	if fit < 300 || long < 100 {
		t.Fatal("too few of the pairs test much", fit, long)
	}
}

// Every way to identify four variables with each other in three steps, also
// when one of them is replaced by a term first or last.
func TestSmallestVariableRemains(t *testing.T) {
	built := onOne(variable(4))
	for _, ends := range lists(4, 6) {
		if len(ends) != 6 {
			continue
		}
		left, right := []tree{}, []tree{}
		for k := 0; k < 6; k += 2 {
			left, right = append(left, variable(int64(ends[k]))), append(right, variable(int64(ends[k+1])))
		}
		first, last := variable(int64(ends[0])), variable(int64(ends[5]))
		if !checkExactlyUnified(t, abc(), row(left...), row(right...)) ||
			!checkExactlyUnified(t, abc(), onTwo(first, row(left...)), onTwo(built, row(right...))) ||
			!checkExactlyUnified(t, abc(), onTwo(row(left...), built), onTwo(row(right...), last)) {
			t.Fatal(ends)
		}
	}
}

// All variables, in each order in which they can be identified in a row.
func TestAllVariablesAreIdentified(t *testing.T) {
	up, down := func(i int64) tree { return variable(i) }, func(i int64) tree { return variable(23 - i) }
	behindUp, behindDown := func(i int64) tree { return variable(i + 1) }, func(i int64) tree { return variable(22 - i) }
	for _, sides := range [][2]func(i int64) tree{{up, behindUp}, {behindUp, up}, {down, behindDown}, {behindDown, down}} {
		x, y := rowOf(23, sides[0]), rowOf(23, sides[1])
		checkExactlyUnified(t, abc(), x, y)
		s, is := impl.Unified(abc(), x.notation(), y.notation())
		if !is || !equalTerms(s.Terms, append([][]int64{nil}, full([]int64{-1}).Terms[1:]...)) {
			t.Fatal(x.notation(), s, is)
		}
	}
	// Twelve pairs of variables, of which the smaller one remains.
	s, is := impl.Unified(abc(), allVars(), rowOf(24, up).notation())
	want := substOf(append(make([][]int64, 12), reversal().Terms[12:]...)...)
	if !is || !equalTerms(s.Terms, want.Terms) {
		t.Fatal(s, is)
	}
}

// The limit is on the unified term, and by that on each replacement, which is a
// part of it.
func TestUnifiedUpToTheLimit(t *testing.T) {
	at := map[int]bool{}
	for high := range 58 {
		for size := 1; size <= 58; size++ {
			a := append(append([]int64{0, -1}, slices.Repeat([]int64{1}, high)...), -1)
			b := append(append([]int64{0}, nested(size)...), -2)
			length := 1 + size + high + size
			s, is := impl.Unified(abc(), a, b)
			if is != (length <= 60) || !is && len(s.Terms) != 0 || is && !equalTerms(s.Terms, [][]int64{nested(size), nested(high + size)}) {
				t.Fatal(high, size, s, is)
			}
			at[length] = true
			checkUnified(t, abc(), a, b)
			checkUnified(t, abc(), b, a)
		}
	}
	if !at[60] || !at[61] {
		t.Fatal("not at the limit")
	}
	for size := 1; size <= 60; size++ {
		s, is := impl.Unified(abc(), []int64{-24}, nested(size))
		if !is || !equalTerms(s.Terms, only(23, nested(size)).Terms) {
			t.Fatal(size, s, is)
		}
	}
	// What replaces x0 at first, f0(x1,x1), is short, but not what x1 makes of it:
	// from 30 on, it is too long by itself.
	for size := 1; size <= 56; size++ {
		a, b := []int64{0, -1, -2}, slices.Concat([]int64{0, 0, -2, -2}, nested(size))
		for _, pair := range [][2][]int64{{a, b}, {b, a}} {
			s, is := impl.Unified(abc(), pair[0], pair[1])
			if is != (2+3*size <= 60) || is && !equalTerms(s.Terms, [][]int64{twice(nested(size)), nested(size)}) || !is && len(s.Terms) != 0 {
				t.Fatal(size, s, is)
			}
		}
	}
}

// Replacements that double in each step, with terms that are not long.
func TestUnifiedOfDoublingTerms(t *testing.T) {
	double := func(x tree) tree { return onTwo(x, x) }
	for steps := 1; steps <= 15; steps++ {
		for high := range 4 {
			up := tower(high, rowOf(steps, variable))
			down := tower(high, rowOf(steps, func(i int64) tree { return variable(i + 1) }))
			upTwice := tower(high, rowOf(steps, func(i int64) tree { return double(variable(i + 1)) }))
			downTwice := tower(high, rowOf(steps, func(i int64) tree { return double(variable(i)) }))
			if upTwice.size() > impl.MaxTerm {
				continue
			}
			length := high + steps - 1
			for k := range steps {
				length += 1<<(k+2) - 1
			}
			for _, sides := range [][2]tree{{up, upTwice}, {upTwice, up}, {down, downTwice}, {downTwice, down}} {
				if got := checkExactlyUnified(t, abc(), sides[0], sides[1]); got != (length <= 60) {
					t.Fatal(steps, high, length, got)
				}
			}
		}
	}
}

// One of the two terms is not valid, or both, beside terms that unify with much.
func TestUnifiedOfInvalidArguments(t *testing.T) {
	check := func(name string, sig impl.Sig, a, b []int64) {
		s, is := impl.Unified(sig, a, b)
		apart, isApart := impl.UnifiedApart(sig, a, b)
		met, isMet := impl.MetOf(sig, a, b)
		if is || isApart || isMet || impl.UnifiesIn(sig, a, b) || len(s.Terms)+len(apart.Terms)+len(met) != 0 {
			t.Fatal(name, sig.Arity, a, b, s, apart, met)
		}
		if got := impl.Generalised(sig, a, b); len(got) != 0 {
			t.Fatal("Generalised", name, sig.Arity, a, b, got)
		}
	}
	for _, x := range noTerms() {
		check(x.name, x.sig, x.nums, x.nums)
		for _, nums := range append(someTerms(), nil, []int64{}, []int64{1, -1}, []int64{0, -1, -2}) {
			check(x.name, x.sig, x.nums, nums)
			check(x.name, x.sig, nums, x.nums)
		}
	}
}

func TestBehindOf(t *testing.T) {
	cases := []struct {
		nums []int64
		want int64
	}{
		{[]int64{0, -1, -4}, 4}, {[]int64{0, -4, -1}, 4}, {[]int64{2}, 0}, {[]int64{-1}, 1}, {[]int64{-24}, 24},
		{big(), 3}, {[]int64{0, -3, -3}, 3}, {[]int64{1, 2}, 0}, {[]int64{0, 2, -2}, 2}, {[]int64{0, -24, -1}, 24},
		{nested(60), 0}, {comb(59), 24}, {allVars(), 24}, {impl.Renamed(abc(), allVars()), 24},
	}
	for _, c := range cases {
		if got := impl.BehindOf(abc(), c.nums); got != c.want {
			t.Error(c.nums, got, c.want)
		}
	}
	if got := impl.BehindOf(wide(), wideTerm(58)); got != 0 {
		t.Error("wide", got)
	}
	for i := range int64(24) {
		if got := impl.BehindOf(abc(), []int64{1, 0, 2, -1 - i}); got != i+1 {
			t.Error(i, got)
		}
	}
	for _, x := range smallTrees([]int64{-1, -2, -24}, 5) {
		if got := impl.BehindOf(abc(), x.notation()); got != x.behind() {
			t.Fatal(x.notation(), got)
		}
	}
	for _, x := range noTerms() {
		if got := impl.BehindOf(x.sig, x.nums); got != -1 {
			t.Error(x.name, x.sig.Arity, got)
		}
	}
}
