package tests

import (
	"slices"
	"testing"

	"loop.example/g00895/impl"
)

// checkInside checks that the moves are made inside x at each of its positions,
// unless a term would be too long, and counts the walks that there are and those
// that would have such a term.
func checkInside(t *testing.T, b book, r trail, x tree) (made, tooLong int) {
	t.Helper()
	sys := b.system()
	for _, s := range x.spots() {
		want := r.inside(x, s.path)
		got, is := impl.WalkInside(sys, r.walk(), x.notation(), s.at)
		checkCarried(t, b, want, got, is)
		if is {
			made++
		} else {
			tooLong++
		}
	}
	return made, tooLong
}

// checkUnder checks the moves with the variables replaced, also by a
// substitution that is not plain.
func checkUnder(t *testing.T, b book, r trail, f filling) bool {
	t.Helper()
	want := r.under(f)
	for _, s := range []impl.Subst{f.plain(), f.subst(0), f.subst(impl.MaxVars)} {
		got, is := impl.WalkUnder(b.system(), r.walk(), s)
		checkCarried(t, b, want, got, is)
	}
	return !want.isLong()
}

// checkCarried checks that the walk is as told, and P7: it is a rewrite
// sequence.
func checkCarried(t *testing.T, b book, want trail, got impl.Walk, is bool) {
	t.Helper()
	if is == want.isLong() {
		t.Fatal(b.system(), want.walk(), got, is)
	}
	if !is {
		if !isZeroWalk(got) {
			t.Fatal(b.system(), want.walk(), got)
		}
		return
	}
	if !equalWalks(got, want.walk()) || !impl.WalkOk(b.system(), got) || !slices.Equal(impl.EndTerm(b.system(), got), want.last().notation()) {
		t.Fatal(b.system(), want.walk(), got)
	}
}

func TestExampleOfWalkInside(t *testing.T) {
	want := impl.Walk{From: []int64{1, 0, 0, 1, 2, 0, 2, 2, -2}, Steps: []impl.Step{
		{At: 5, Rule: 0, To: []int64{1, 0, 0, 1, 2, 2, -2}}, {At: 2, Rule: 1, To: []int64{1, 0, 1, 0, 2, 2, -2}}, {At: 3, Rule: 0, To: []int64{1, 0, 1, 2, -2}},
	}}
	if got, is := impl.WalkInside(sums(), ended(), []int64{1, 0, -1, -2}, 2); !is || !equalWalks(got, want) {
		t.Error(got, is)
	}
}

func TestExampleOfWalkUnder(t *testing.T) {
	w := impl.Walk{From: []int64{0, -1, 0, 2, -2}, Steps: []impl.Step{{At: 2, To: []int64{0, -1, -2}}}}
	want := impl.Walk{From: []int64{0, 1, 1, -1, 0, 2, 2}, Steps: []impl.Step{{At: 4, To: []int64{0, 1, 1, -1, 2}}}}
	if got, is := impl.WalkUnder(sums(), w, substOf([]int64{1, 1, -1}, []int64{2})); !is || !equalWalks(got, want) {
		t.Error(got, is)
	}
}

// At the head the term does not matter, but it must be one.
func TestWalkInsideAtTheHead(t *testing.T) {
	for _, nums := range append(someTerms(), start()) {
		for _, w := range []impl.Walk{ended(), resting(start()), resting(nested(60))} {
			if got, is := impl.WalkInside(sums(), w, nums, 0); !is || !equalWalks(got, w) {
				t.Error(nums, w, got, is)
			}
		}
	}
	for _, x := range noTerms() {
		sys := impl.System{Sig: x.sig}
		for at := range min(int64(len(x.nums))+1, 70) {
			for _, w := range []impl.Walk{resting([]int64{2}), resting([]int64{-1}), resting([]int64{0})} {
				if got, is := impl.WalkInside(sys, w, x.nums, at); is || !isZeroWalk(got) {
					t.Fatal(x.name, x.sig.Arity, w, got)
				}
			}
		}
		if got, is := impl.WalkInside(sums(), ended(), x.nums, 0); is != impl.TermOk(abc(), x.nums) || !is && !isZeroWalk(got) {
			t.Fatal(x.name, got)
		}
	}
}

func TestWalkInsideAtNoPosition(t *testing.T) {
	for _, nums := range append(someTerms(), start()) {
		for _, at := range positionsOutside(nums) {
			for _, w := range []impl.Walk{ended(), resting([]int64{2}), resting(start())} {
				if got, is := impl.WalkInside(sums(), w, nums, at); is || !isZeroWalk(got) {
					t.Error(nums, at, w, got)
				}
			}
		}
	}
}

func TestWalksInside(t *testing.T) {
	one := onTwo(onOne(onTwo(variable(0), tree{head: 2})), variable(2))
	for _, b := range longBooks() {
		for i, x := range smallTrees([]int64{-1, -24}, 4) {
			r := makerOf(uint64(i)).trail(b, x, 3)
			checkInside(t, b, r, one)
			checkInside(t, b, r, tree{head: 2})
			checkInside(t, b, r, row(variable(23), x, onOne(x)))
		}
	}
	// A symbol with three arguments, and walks in each of them.
	b := book{impl.Sig{Arity: []int64{0, 3, 1}}, []ruling{
		{stair(variable(0), variable(1), variable(2)), stair(variable(2), variable(1), variable(0))},
		{tree{head: 2, args: []tree{variable(0)}}, stair(variable(0), variable(0), variable(0))},
	}}
	m := makerOf(14)
	for range 60 {
		r := m.trail(b, m.bed(b, 1+m.Int64N(20)), 6)
		checkInside(t, b, r, m.tree(b.sig, 1+m.Int64N(30)))
	}
}

func TestLongWalksInside(t *testing.T) {
	m, made, tooLong := makerOf(15), 0, 0
	for i := range 150 {
		b := longBooks()[i%len(longBooks())]
		if i%3 == 0 {
			b = m.book()
		}
		r := m.trail(b, m.bed(b, 1+m.Int64N(30)), m.IntN(impl.MaxWalk/6))
		some, others := checkInside(t, b, r, m.tree(b.sig, 1+m.Int64N(impl.MaxTerm)))
		made, tooLong = made+some, tooLong+others
	}
	if made < 1000 || tooLong < 500 {
		t.Error("too few of the walks test much", made, tooLong)
	}
	b := bookOf(swap())
	for _, many := range []int{0, 1, 59, 60} {
		checkInside(t, b, m.trail(b, row(onOne(variable(0)), variable(1), tree{head: 2}), many), row(variable(0), tower(3, variable(1)), variable(0)))
	}
}

// hill goes from low+1 numbers up to high+1 numbers and down again to low+1.
func hill(low, high int) (book, trail) {
	r, x := trail{}, tree{head: 2}
	r.from = tower(low, x)
	for size := low + 1; size <= high; size++ {
		r.moves = append(r.moves, move{rule: 0, to: tower(size, x)})
	}
	for size := high - 1; size >= low; size-- {
		r.moves = append(r.moves, move{rule: 1, to: tower(size, x)})
	}
	return bookOf(grow(), shrink()), r
}

// The longest term is the first one, the last one or one between them. It may
// have MaxTerm numbers.
func TestWalksInsideUpToTheLimit(t *testing.T) {
	b, r := hill(10, 20)
	up, down := r.cut(0, 10), r.cut(10, 20)
	if len(r.moves) != 20 || !b.allows(r) || !slices.Equal(up.last().notation(), nested(21)) {
		t.Fatal(r.walk())
	}
	for _, part := range []trail{r, up, down, r.cut(0, 12), r.cut(10, 10), down.cut(0, 1), up.cut(9, 10)} {
		for high := range int64(59) {
			// Inside so many f1, the longest of 21 numbers becomes one of high+21.
			got, is := impl.WalkInside(b.system(), part.walk(), nested(int(high)+1), high)
			if is != (high <= 39) || is && len(got.Steps) != len(part.moves) {
				t.Fatal(high, part.walk(), got, is)
			}
		}
		for _, high := range []int{5, 39, 40} {
			checkInside(t, b, part, tower(high, variable(0)))
			checkInside(t, b, part, onTwo(tower(high/2, variable(0)), tower(high/2, tree{head: 2})))
		}
	}
	// What is replaced does not count.
	for at := range int64(2) {
		want := slices.Concat(nested(60)[:at], nested(21))
		if got, is := impl.WalkInside(b.system(), down.walk(), nested(60), at); !is || !slices.Equal(got.From, want) {
			t.Error(at, got, is)
		}
	}
	long := trail{from: tower(59, tree{head: 2})}
	if made, tooLong := checkInside(t, b, long, tower(3, variable(0))); made != 1 || tooLong != 3 {
		t.Error(made, tooLong)
	}
}

func TestWalksUnder(t *testing.T) {
	images := []tree{variable(0), variable(1), onOne(variable(23)), onTwo(tree{head: 2}, variable(0))}
	fillings := fillingsOf([]int64{0, 23}, images)
	for _, b := range longBooks() {
		for i, x := range smallTrees([]int64{-1, -24}, 4) {
			r := makerOf(uint64(i)).trail(b, x, 3)
			for _, f := range fillings {
				checkUnder(t, b, r, f)
			}
		}
	}
}

// A substitution may leave variables out, in front of others and behind them.
func TestVariablesThatAreLeftOut(t *testing.T) {
	w := impl.Walk{From: []int64{0, -1, 0, -3, 0, 1, -2, -1}, Steps: []impl.Step{
		{At: 4, Rule: 1, To: []int64{0, -1, 0, -3, 1, 0, -2, -1}},
	}}
	cases := []struct {
		s    impl.Subst
		at   int64
		from []int64
		to   []int64
	}{
		{substOf(), 4, w.From, w.Steps[0].To},
		{substOf(nil, nil, nil), 4, w.From, w.Steps[0].To},
		{substOf([]int64{-1}, []int64{-2}, []int64{}), 4, w.From, w.Steps[0].To},
		{substOf([]int64{1, 2}), 5, []int64{0, 1, 2, 0, -3, 0, 1, -2, 1, 2}, []int64{0, 1, 2, 0, -3, 1, 0, -2, 1, 2}},
		{substOf(nil, []int64{1, 2}), 4, []int64{0, -1, 0, -3, 0, 1, 1, 2, -1}, []int64{0, -1, 0, -3, 1, 0, 1, 2, -1}},
		{substOf(nil, nil, []int64{1, 1, -1}), 6, []int64{0, -1, 0, 1, 1, -1, 0, 1, -2, -1}, []int64{0, -1, 0, 1, 1, -1, 1, 0, -2, -1}},
		// Each variable becomes another one, at once.
		{substOf([]int64{-2}, []int64{-3}, []int64{-1}), 4, []int64{0, -2, 0, -1, 0, 1, -3, -2}, []int64{0, -2, 0, -1, 1, 0, -3, -2}},
		{substOf([]int64{0, -1, -2}, []int64{-1}), 6, []int64{0, 0, -1, -2, 0, -3, 0, 1, -1, 0, -1, -2}, []int64{0, 0, -1, -2, 0, -3, 1, 0, -1, 0, -1, -2}},
		// A variable that does not occur may become anything.
		{only(23, nested(60)), 4, w.From, w.Steps[0].To},
	}
	for _, c := range cases {
		want := impl.Walk{From: c.from, Steps: []impl.Step{{At: c.at, Rule: 1, To: c.to}}}
		if got, is := impl.WalkUnder(sums(), w, c.s); !is || !equalWalks(got, want) || !impl.WalkOk(sums(), got) {
			t.Error(c.s, got, is)
		}
	}
}

// A step moves by what is before it in its own terms, not in the first one of
// the walk.
func TestStepsMoveByTheirOwnTerms(t *testing.T) {
	sys := systemOf([]int64{0, -1, -2}, []int64{0, -2, -1}, []int64{2}, []int64{1, 2})
	w := impl.Walk{From: []int64{0, -1, 0, -2, 2}, Steps: []impl.Step{
		{At: 4, Rule: 1, To: []int64{0, -1, 0, -2, 1, 2}}, {At: 0, Rule: 0, To: []int64{0, 0, -2, 1, 2, -1}},
		{At: 4, Rule: 1, To: []int64{0, 0, -2, 1, 1, 2, -1}}, {At: 1, Rule: 0, To: []int64{0, 0, 1, 1, 2, -2, -1}},
		{At: 4, Rule: 1, To: []int64{0, 0, 1, 1, 1, 2, -2, -1}}, {At: 0, Rule: 0, To: []int64{0, -1, 0, 1, 1, 1, 2, -2}},
		{At: 6, Rule: 1, To: []int64{0, -1, 0, 1, 1, 1, 1, 2, -2}},
	}}
	if !impl.WalkOk(sys, w) {
		t.Fatal("not valid")
	}
	got, is := impl.WalkUnder(sys, w, substOf([]int64{1, 1, 1, -1}, []int64{0, -1, 2}))
	var places []int64
	for _, x := range got.Steps {
		places = append(places, x.At)
	}
	if want := []int64{9, 0, 6, 1, 4, 0, 9}; !is || !slices.Equal(places, want) || !impl.WalkOk(sys, got) {
		t.Error(got, is, places)
	}
}

func TestLongWalksUnder(t *testing.T) {
	m, made, tooLong := makerOf(16), 0, 0
	for i := range 600 {
		b := longBooks()[i%len(longBooks())]
		if i%3 == 0 {
			b = m.book()
		}
		r := m.trail(b, m.bed(b, 1+m.Int64N(25)), m.IntN(impl.MaxWalk/6))
		f := filling{}
		for _, i := range []int64{0, 10, 20, 1} {
			if m.IntN(3) > 0 {
				f[i] = m.tree(b.sig, 1+m.Int64N(12))
			}
		}
		if checkUnder(t, b, r, f) {
			made++
		} else {
			tooLong++
		}
	}
	if made < 200 || tooLong < 50 {
		t.Error("too few of the walks test much", made, tooLong)
	}
	b := bookOf(swap())
	for _, many := range []int{0, 1, 59, 60} {
		checkUnder(t, b, m.trail(b, row(onOne(variable(0)), variable(1), tree{head: 2}), many), filling{0: tower(5, variable(1)), 1: variable(0)})
	}
}

// The longest term is the first one, the last one or one between them. It may
// have MaxTerm numbers.
func TestWalksUnderUpToTheLimit(t *testing.T) {
	b, x, y := bookOf(double(), merge()), variable(0), variable(1)
	r := trail{from: onTwo(onOne(x), y), moves: []move{{1, []int64{0}, 0, onTwo(onTwo(x, x), y)}, {1, []int64{0}, 1, onTwo(x, y)}}}
	if !b.allows(r) {
		t.Fatal("not valid")
	}
	for a := 1; a <= 60; a++ {
		for c := 1; c <= 60; c++ {
			f := filling{0: tower(a-1, variable(5)), 1: tower(c-1, variable(0))}
			middle := 2+2*a+c <= 60
			if got := checkUnderOf(b, r, f); got != middle {
				t.Fatal(a, c, got)
			}
			if got := checkUnderOf(b, r.cut(0, 1), f); got != middle {
				t.Fatal(a, c, got)
			}
			if got := checkUnderOf(b, r.cut(1, 2), f); got != middle {
				t.Fatal(a, c, got)
			}
			if got := checkUnderOf(b, r.cut(0, 0), f); got != (2+a+c <= 60) {
				t.Fatal(a, c, got)
			}
			if got := checkUnderOf(b, r.cut(2, 2), f); got != (1+a+c <= 60) {
				t.Fatal(a, c, got)
			}
		}
	}
	for _, f := range []filling{{0: tower(18, x), 1: tower(19, x)}, {0: tower(18, x), 1: tower(20, x)}, {0: tower(27, x)}, {0: tower(28, x)}, {1: tower(55, x)}, {1: tower(56, x)}} {
		checkUnder(t, b, r, f)
		checkUnder(t, b, r.cut(1, 2), f)
	}
}

// checkUnderOf reports whether there is a walk under f of the right length.
func checkUnderOf(b book, r trail, f filling) bool {
	got, is := impl.WalkUnder(b.system(), r.walk(), f.subst(0))
	return is && len(got.Steps) == len(r.moves) && slices.Equal(got.From, r.from.filled(f).notation())
}

func TestWalkUnderOfInvalidSubstitutions(t *testing.T) {
	for _, x := range badSubsts() {
		for _, rules := range [][]impl.Rule{nil, rulesOf([][]int64{{2}, {2}}), rulesOf([][]int64{{0}, {0}}), sums().Rules} {
			for _, w := range []impl.Walk{resting([]int64{-1}), resting([]int64{2}), resting([]int64{0}), {From: []int64{2}, Steps: []impl.Step{{To: []int64{2}}}}, ended()} {
				sys := impl.System{Sig: x.sig, Rules: rules}
				if got, is := impl.WalkUnder(sys, w, x.s); is || !isZeroWalk(got) {
					t.Fatal(x.name, sys, w, got)
				}
			}
		}
	}
}

// P7: a walk may be carried twice, and it does not matter in which order.
func TestCarryingTwice(t *testing.T) {
	m, made := makerOf(17), 0
	for i := range 300 {
		b := longBooks()[i%len(longBooks())]
		sys, w := b.system(), m.trail(b, m.bed(b, 1+m.Int64N(12)), m.IntN(8)).walk()
		x, y := m.tree(b.sig, 1+m.Int64N(12)).notation(), m.tree(b.sig, 1+m.Int64N(12)).notation()
		at, p := m.Int64N(int64(len(x))), m.Int64N(int64(len(y)))
		inner, _ := impl.WalkInside(sys, w, x, at)
		outer, is := impl.WalkInside(sys, inner, y, p)
		both, _ := impl.PutAt(b.sig, y, p, x)
		once, does := impl.WalkInside(sys, w, both, p+at)
		if is != does || !equalWalks(outer, once) {
			t.Fatal(w, x, at, y, p, outer, once)
		}
		f, g := filling{0: m.tree(b.sig, 3), 10: m.tree(b.sig, 2)}, filling{0: m.tree(b.sig, 2), 20: m.tree(b.sig, 3)}
		half, _ := impl.WalkUnder(sys, w, f.subst(0))
		whole, done := impl.WalkUnder(sys, half, g.subst(0))
		composed, _ := impl.Composed(b.sig, f.subst(0), g.subst(0))
		direct, alsoDone := impl.WalkUnder(sys, w, composed)
		if done != alsoDone || !equalWalks(whole, direct) {
			t.Fatal(w, f, g, whole, direct)
		}
		if is && done {
			made++
		}
	}
	if made < 150 {
		t.Error("too few of the walks test much", made)
	}
}

// P7: filling a walk inside a term is putting the filled walk into the filled
// term.
func TestCarryingInsideAndUnder(t *testing.T) {
	m, made := makerOf(18), 0
	for i := range 300 {
		b := longBooks()[i%len(longBooks())]
		sys, w, x := b.system(), m.trail(b, m.bed(b, 1+m.Int64N(12)), m.IntN(8)).walk(), m.tree(b.sig, 1+m.Int64N(12))
		f := filling{0: m.tree(b.sig, 3), 10: m.tree(b.sig, 2), 20: m.tree(b.sig, 1)}
		spots := x.spots()
		s := spots[m.IntN(len(spots))]
		inside, _ := impl.WalkInside(sys, w, x.notation(), s.at)
		left, is := impl.WalkUnder(sys, inside, f.subst(0))
		under, _ := impl.WalkUnder(sys, w, f.subst(0))
		right, does := impl.WalkInside(sys, under, x.filled(f).notation(), spotAt(x.filled(f).spots(), s.path))
		if is != does || !equalWalks(left, right) {
			t.Fatal(w, x.notation(), s.at, f, left, right)
		}
		if is {
			made++
		}
	}
	if made < 150 {
		t.Error("too few of the walks test much", made)
	}
}

// P7: joined walks are carried as their parts are.
func TestCarryingJoinedWalks(t *testing.T) {
	m := makerOf(19)
	for i := range 60 {
		b := longBooks()[i%len(longBooks())]
		r, x := m.trail(b, m.bed(b, 1+m.Int64N(12)), 6), m.tree(b.sig, 1+m.Int64N(12)).notation()
		at, s := m.Int64N(int64(len(x))), filling{0: m.tree(b.sig, 3), 10: m.tree(b.sig, 2)}.subst(0)
		for cut := range len(r.moves) + 1 {
			for _, carry := range []func(w impl.Walk) (impl.Walk, bool){
				func(w impl.Walk) (impl.Walk, bool) { return impl.WalkInside(b.system(), w, x, at) },
				func(w impl.Walk) (impl.Walk, bool) { return impl.WalkUnder(b.system(), w, s) },
			} {
				first, one := carry(r.cut(0, cut).walk())
				rest, two := carry(r.cut(cut, len(r.moves)).walk())
				joined, _ := impl.JoinedWalk(b.system(), first, rest)
				whole, is := carry(r.walk())
				if is != (one && two) || is && !equalWalks(joined, whole) {
					t.Fatal(r.walk(), cut, joined, whole)
				}
			}
		}
	}
}
