package tests

import (
	"math"
	"slices"
	"testing"

	"loop.example/g00895/impl"
)

// ended is the document's example of a rewrite sequence, from start to a normal
// form.
func ended() impl.Walk {
	return impl.Walk{From: start(), Steps: []impl.Step{{At: 3, Rule: 0, To: []int64{0, 1, 2, 2}}, {At: 0, Rule: 1, To: []int64{1, 0, 2, 2}}, {At: 1, Rule: 0, To: []int64{1, 2}}}}
}

// resting returns the walk without steps.
func resting(nums []int64) impl.Walk { return impl.Walk{From: nums} }

func endOfSteps(w impl.Walk) []int64 {
	if len(w.Steps) == 0 {
		return w.From
	}
	return w.Steps[len(w.Steps)-1].To
}

// checkNoWalk checks that every function returns its zero value for a walk that
// is not valid.
func checkNoWalk(t *testing.T, sys impl.System, w impl.Walk) {
	t.Helper()
	if got := impl.EndTerm(sys, w); impl.WalkOk(sys, w) || len(got) != 0 {
		t.Fatal(sys, w, got)
	}
	before, after := resting(w.From), resting(endOfSteps(w))
	for _, pair := range [][2]impl.Walk{{before, w}, {w, after}, {w, w}, {w, {}}, {{}, w}} {
		if got, is := impl.JoinedWalk(sys, pair[0], pair[1]); is || !isZeroWalk(got) {
			t.Fatal(sys, pair, got, is)
		}
	}
	for _, nums := range [][]int64{{-1}, {2}, {0}} {
		if got, is := impl.WalkInside(sys, w, nums, 0); is || !isZeroWalk(got) {
			t.Fatal(sys, w, nums, got, is)
		}
	}
	for _, s := range []impl.Subst{{}, substOf([]int64{-2}), full([]int64{-1})} {
		if got, is := impl.WalkUnder(sys, w, s); is || !isZeroWalk(got) {
			t.Fatal(sys, w, s, got, is)
		}
	}
}

// checkWalk checks that the moves are a rewrite sequence, from the first tree to
// the last one.
func checkWalk(t *testing.T, b book, r trail) {
	t.Helper()
	sys, w := b.system(), r.walk()
	if got := impl.EndTerm(sys, w); !impl.WalkOk(sys, w) || !slices.Equal(got, r.last().notation()) {
		t.Fatal(sys, w, got)
	}
}

func TestExamplesOfWalks(t *testing.T) {
	if !impl.WalkOk(sums(), ended()) {
		t.Error("WalkOk")
	}
	if got := impl.EndTerm(sums(), ended()); !slices.Equal(got, []int64{1, 2}) {
		t.Error("EndTerm", got)
	}
	one := impl.Walk{From: start(), Steps: ended().Steps[:1]}
	rest := impl.Walk{From: []int64{0, 1, 2, 2}, Steps: ended().Steps[1:]}
	if got, is := impl.JoinedWalk(sums(), one, rest); !is || !equalWalks(got, ended()) {
		t.Error("JoinedWalk", got, is)
	}
	if impl.MaxWalk != 60 {
		t.Error(impl.MaxWalk)
	}
}

// A walk without steps is one for every term and every system.
func TestWalksWithoutSteps(t *testing.T) {
	for _, sys := range []impl.System{sums(), systemOf(), bookOf(swap()).system()} {
		for _, nums := range append(someTerms(), start(), nested(1)) {
			for _, w := range []impl.Walk{resting(nums), {From: nums, Steps: []impl.Step{}}, {From: nums, Steps: ended().Steps[:0]}} {
				if got := impl.EndTerm(sys, w); !impl.WalkOk(sys, w) || !slices.Equal(got, nums) {
					t.Error(sys, w, got)
				}
				if got, is := impl.JoinedWalk(sys, w, resting(nums)); !is || !equalWalks(got, resting(nums)) {
					t.Error(sys, w, got, is)
				}
			}
		}
	}
}

func TestPartsOfAWalk(t *testing.T) {
	for from := range 4 {
		for to := from; to <= 3; to++ {
			w := impl.Walk{From: endOfSteps(impl.Walk{From: start(), Steps: ended().Steps[:from]}), Steps: ended().Steps[from:to]}
			want := endOfSteps(impl.Walk{From: start(), Steps: ended().Steps[:to]})
			if got := impl.EndTerm(sums(), w); !impl.WalkOk(sums(), w) || !slices.Equal(got, want) {
				t.Error(from, to, got)
			}
		}
	}
}

// One number of the three right steps is wrong.
func TestWrongStepsAmidRightOnes(t *testing.T) {
	for i := range 3 {
		right := ended().Steps[i]
		wrong := []impl.Step{{}, {At: right.At, Rule: right.Rule}, {At: right.At, Rule: right.Rule, To: []int64{}}}
		for _, at := range append(somePositions(start()), 7, 8) {
			if at != right.At {
				wrong = append(wrong, impl.Step{At: at, Rule: right.Rule, To: right.To})
			}
		}
		for _, rule := range []int64{-2, -1, 0, 1, 2, 3, 12, math.MaxInt64, math.MinInt64, 1 << 32, 1<<32 + 1} {
			if rule != right.Rule {
				wrong = append(wrong, impl.Step{At: right.At, Rule: rule, To: right.To})
			}
		}
		for _, to := range append(someTerms(), start(), right.To[:len(right.To)-1], append(slices.Clone(right.To), 2), []int64{1, 0, 1, 2, 2}, []int64{0, 2, 1, 2}) {
			wrong = append(wrong, impl.Step{At: right.At, Rule: right.Rule, To: to})
		}
		for _, x := range wrong {
			if slices.Equal(x.To, right.To) && x.At == right.At && x.Rule == right.Rule {
				continue
			}
			w := ended()
			w.Steps[i] = x
			checkNoWalk(t, sums(), w)
			checkNoWalk(t, sums(), impl.Walk{From: start(), Steps: w.Steps[:i+1]})
		}
		for _, from := range append(someTerms(), nil, []int64{}, []int64{0, 1, 2, 0, 2}, []int64{0, 1, 2, 0, 2, 1, 2}) {
			w := ended()
			w.From = from
			checkNoWalk(t, sums(), w)
		}
		checkNoWalk(t, sums(), impl.Walk{From: start(), Steps: slices.Insert(ended().Steps, i, right)})
	}
	checkNoWalk(t, sums(), impl.Walk{From: start(), Steps: ended().Steps[1:]})
	checkNoWalk(t, sums(), impl.Walk{From: start(), Steps: slices.Delete(ended().Steps, 1, 2)})
	checkNoWalk(t, sums(), impl.Walk{From: start(), Steps: append(ended().Steps, impl.Step{To: []int64{1, 2}})})
	checkNoWalk(t, sums(), impl.Walk{From: start(), Steps: make([]impl.Step, 3)})
}

// Another rule or another position may lead to the same term.
func TestOtherWaysToTheSameTerm(t *testing.T) {
	sys := systemOf([]int64{1, -1}, []int64{-1}, []int64{2}, []int64{2}, []int64{1, 1, -1}, []int64{1, -1})
	for at := range int64(3) {
		for rule := range int64(3) {
			w := impl.Walk{From: []int64{1, 1, 1, 2}, Steps: []impl.Step{{At: at, Rule: rule, To: []int64{1, 1, 2}}}}
			if want := rule == 0 || rule == 2 && at < 2; impl.WalkOk(sys, w) != want {
				t.Error(w, want)
			}
		}
	}
}

func TestWalksOfMostSteps(t *testing.T) {
	sys := systemOf([]int64{2}, []int64{2})
	for size := range 130 {
		w := impl.Walk{From: []int64{2}, Steps: slices.Repeat([]impl.Step{{To: []int64{2}}}, size)}
		if size > 60 {
			checkNoWalk(t, sys, w)
		} else if got := impl.EndTerm(sys, w); !impl.WalkOk(sys, w) || !slices.Equal(got, []int64{2}) {
			t.Error(size, got)
		}
	}
	checkNoWalk(t, sys, impl.Walk{From: []int64{2}, Steps: slices.Repeat([]impl.Step{{To: []int64{2}}}, 5000)})
	checkNoWalk(t, sys, impl.Walk{From: []int64{2}, Steps: make([]impl.Step, 60)})
	// The last one of MaxWalk steps counts like the others.
	m := makerOf(10)
	r := m.trail(bookOf(swap()), row(onOne(variable(0)), variable(1), onTwo(variable(2), tree{head: 2})), 61)
	checkWalk(t, bookOf(swap()), r.cut(0, 60))
	checkWalk(t, bookOf(swap()), r.cut(1, 61))
	checkNoWalk(t, bookOf(swap()).system(), r.walk())
	for _, x := range []impl.Step{{At: 0, Rule: 0, To: []int64{2}}, {At: 60, Rule: 0, To: r.moves[59].to.notation()}, {At: r.moves[59].at, Rule: 1, To: r.moves[59].to.notation()}} {
		w := r.cut(0, 60).walk()
		w.Steps[59] = x
		checkNoWalk(t, bookOf(swap()).system(), w)
	}
}

// A walk may go up to terms of MaxTerm numbers, not beyond.
func TestWalksToLongTerms(t *testing.T) {
	b := bookOf(grow())
	r := trail{from: tower(1, tree{head: 2})}
	for range 58 {
		r.moves = append(r.moves, b.moves(r.last())[0])
	}
	checkWalk(t, b, r)
	r.moves = append(r.moves, b.moves(r.last())[0])
	if r.last().size() != 61 {
		t.Fatal(r.last().size())
	}
	checkNoWalk(t, b.system(), r.walk())
	checkNoWalk(t, b.system(), r.cut(58, 59).walk())
	checkNoWalk(t, b.system(), resting(nested(61)))
}

func TestVariationsOfWalks(t *testing.T) {
	m, right, wrong := makerOf(11), 0, 0
	for _, b := range longBooks() {
		sys := b.system()
		for range 6 {
			r := m.trail(b, m.bed(b, 2+m.Int64N(9)), 4)
			checkWalk(t, b, r)
			for _, v := range b.variations(r) {
				if b.allows(v) {
					right++
					checkWalk(t, b, v)
				} else {
					wrong++
					checkNoWalk(t, sys, v.walk())
				}
			}
		}
	}
	if right < 200 || wrong < 2000 {
		t.Error("too few of the walks test much", right, wrong)
	}
}

func TestWalksOfInvalidSystems(t *testing.T) {
	walks := []impl.Walk{{}, ended(), resting([]int64{2}), resting([]int64{-1}), resting([]int64{0}), resting(start()), {From: []int64{2}, Steps: []impl.Step{{To: []int64{2}}}}, {From: []int64{1, -1}, Steps: []impl.Step{{To: []int64{0, -1, -1}}}}}
	for _, x := range badSystems() {
		for _, w := range walks {
			checkNoWalk(t, x.sys, w)
		}
	}
}

func TestWalksOfNoTerms(t *testing.T) {
	for _, x := range noTerms() {
		for _, rules := range [][]impl.Rule{nil, rulesOf([][]int64{{0}, {0}}), rulesOf([][]int64{{2}, {2}}), rulesOf([][]int64{{1, -1}, {-1}, {2}, {2}})} {
			sys := impl.System{Sig: x.sig, Rules: rules}
			checkNoWalk(t, sys, resting(x.nums))
			for rule := range int64(len(rules)) {
				checkNoWalk(t, sys, impl.Walk{From: x.nums, Steps: []impl.Step{{Rule: rule, To: x.nums}}})
				checkNoWalk(t, sys, impl.Walk{From: []int64{2}, Steps: []impl.Step{{Rule: rule, To: x.nums}}})
				checkNoWalk(t, sys, impl.Walk{From: x.nums, Steps: []impl.Step{{Rule: rule, To: []int64{2}}}})
			}
		}
	}
	checkNoWalk(t, sums(), impl.Walk{})
	checkNoWalk(t, sums(), impl.Walk{From: []int64{}, Steps: []impl.Step{}})
}

// checkJoined checks that the moves, cut in two at any place, are joined again,
// or are not, if they are too many together.
func checkJoined(t *testing.T, b book, r trail) {
	t.Helper()
	sys, many := b.system(), len(r.moves)
	for i := range many + 1 {
		got, is := impl.JoinedWalk(sys, r.cut(0, i).walk(), r.cut(i, many).walk())
		if is != (many <= impl.MaxWalk) || is && !equalWalks(got, r.walk()) || !is && !isZeroWalk(got) {
			t.Fatal(sys, r.walk(), i, got, is)
		}
	}
}

func TestJoinedWalks(t *testing.T) {
	m, long := makerOf(12), 0
	for range 20 {
		for _, b := range longBooks() {
			r := m.trail(b, m.bed(b, 2+m.Int64N(30)), m.IntN(12))
			checkJoined(t, b, r)
			checkWalk(t, b, r)
		}
	}
	for _, b := range []book{bookOf(swap()), bookOf(swap(), grow(), shrink()), bookOf(swap(), double(), merge())} {
		for _, many := range []int{58, 59, 60, 61, 62, 90, 120, 121} {
			r := m.trail(b, row(onOne(variable(0)), onOne(variable(1)), tower(2, variable(2)), tree{head: 2}), many)
			checkJoined(t, b, r)
			if len(r.moves) > 60 {
				long++
			}
		}
	}
	if long != 15 {
		t.Error("too few of the walks are long", long)
	}
}

// The order in which three walks are joined in pairs does not matter.
func TestJoiningIsAssociative(t *testing.T) {
	m := makerOf(13)
	for _, b := range longBooks() {
		sys, r := b.system(), m.trail(b, m.bed(b, 20), 9)
		for i := range len(r.moves) + 1 {
			for j := i; j <= len(r.moves); j++ {
				one, two, three := r.cut(0, i).walk(), r.cut(i, j).walk(), r.cut(j, len(r.moves)).walk()
				a, _ := impl.JoinedWalk(sys, one, two)
				c, _ := impl.JoinedWalk(sys, two, three)
				left, is := impl.JoinedWalk(sys, a, three)
				right, does := impl.JoinedWalk(sys, one, c)
				if !is || !does || !equalWalks(left, right) || !equalWalks(left, r.walk()) {
					t.Fatal(i, j, left, right)
				}
			}
		}
	}
}

func TestEndsThatDoNotMeet(t *testing.T) {
	choice := systemOf([]int64{0, -1, -2}, []int64{-1}, []int64{0, -1, -2}, []int64{-2}, []int64{1, -1}, []int64{0, -1, 2})
	first := impl.Walk{From: []int64{0, -1, 1, -2}, Steps: []impl.Step{{Rule: 1, To: []int64{1, -2}}}}
	cases := []struct {
		a, b impl.Walk
		want bool
	}{
		{first, resting([]int64{1, -2}), true},
		{first, resting([]int64{1, -1}), false}, // a variant
		{first, resting([]int64{1, 2}), false},  // an instance
		{first, resting([]int64{-2}), false},    // a part of it
		{first, resting([]int64{1, 1, -2}), false},
		{first, resting([]int64{0, -1, 1, -2}), false}, // the first term of both
		{first, first, false},
		{resting([]int64{1, -2}), first, false},
		{first, impl.Walk{From: []int64{1, -2}, Steps: []impl.Step{{Rule: 2, To: []int64{0, -2, 2}}}}, true},
		{first, impl.Walk{From: []int64{1, -1}, Steps: []impl.Step{{Rule: 2, To: []int64{0, -1, 2}}}}, false},
		{first, impl.Walk{From: []int64{0, -1, 1, -2}, Steps: []impl.Step{{Rule: 0, To: []int64{-1}}}}, false},
		// The ends are the same, or the end of the second one is the first term.
		{first, impl.Walk{From: []int64{0, 2, 1, -2}, Steps: []impl.Step{{Rule: 1, To: []int64{1, -2}}}}, false},
		{impl.Walk{From: []int64{1, -2}, Steps: []impl.Step{{Rule: 2, To: []int64{0, -2, 2}}}}, impl.Walk{From: []int64{0, 1, -2, 2}, Steps: []impl.Step{{Rule: 0, To: []int64{1, -2}}}}, false},
		{resting([]int64{2}), resting([]int64{-1}), false},
		{resting(nested(60)), resting(nested(59)), false},
	}
	for _, c := range cases {
		if !impl.WalkOk(choice, c.a) || !impl.WalkOk(choice, c.b) {
			t.Error("not valid", c.a, c.b)
		}
		got, is := impl.JoinedWalk(choice, c.a, c.b)
		if is != c.want || is && !equalSteps(got.Steps, slices.Concat(c.a.Steps, c.b.Steps)) || is && !slices.Equal(got.From, c.a.From) || !is && !isZeroWalk(got) {
			t.Error(c.a, c.b, got, is)
		}
	}
}
