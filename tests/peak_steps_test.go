package tests

import (
	"slices"
	"testing"

	"loop.example/g00895/impl"
)

// meeting is two moves of a tree of which the second one is inside the first one,
// and where in the left side of the first one.
type meeting struct {
	outer, inner move
	place        spot
}

// meetings lists the pairs of moves from x that overlap: the second one is at a
// symbol of the left side of the first one.
func (b book) meetings(x tree) []meeting {
	var found []meeting
	moves := b.moves(x)
	for _, outer := range moves {
		for _, inner := range moves {
			for _, place := range b.list[outer.rule].l.spots() {
				isThere := slices.Equal(inner.path, slices.Concat(outer.path, place.path))
				isSame := outer.rule == inner.rule && len(place.path) == 0
				if isThere && place.sub.head >= 0 && !isSame {
					found = append(found, meeting{outer, inner, place})
				}
			}
		}
	}
	return found
}

// at returns the subterm at the end of a path.
func (x tree) at(path []int64) tree {
	for _, i := range path {
		x = x.args[i]
	}
	return x
}

// checkInstance checks P11 for two overlapping moves of x: there is a critical
// peak, and both moves are made by an instance of it inside x. It reports whether
// they fit into terms.
func checkInstance(t *testing.T, b book, x tree, y meeting) bool {
	t.Helper()
	sys, over, under, at := b.system(), y.outer.rule, y.inner.rule, y.place.at
	if !slices.Contains(impl.OverlapsIn(sys, over, under), at) {
		t.Fatal(sys, x.notation(), y)
	}
	if y.outer.isLong() || y.inner.isLong() {
		return false
	}
	p, is := impl.PeakAt(sys, over, at, under)
	s, does := impl.Matched(b.sig, p.Top, x.at(y.outer.path).notation())
	if !is || !does {
		t.Fatal(sys, x.notation(), y, p, is, does)
	}
	got, is := impl.PeakUnder(sys, p, s)
	if !is || !impl.PeakOk(sys, got) || !slices.Equal(got.Top, x.at(y.outer.path).notation()) {
		t.Fatal(sys, x.notation(), y, p, s, got, is)
	}
	left, _ := impl.PutAt(b.sig, x.notation(), y.outer.at, got.Left)
	right, _ := impl.PutAt(b.sig, x.notation(), y.outer.at, got.Right)
	if !slices.Equal(left, y.inner.to.notation()) || !slices.Equal(right, y.outer.to.notation()) {
		t.Fatal(sys, x.notation(), y, got)
	}
	return true
}

func TestOverlappingStepsAreInstancesOfPeaks(t *testing.T) {
	met := 0
	for _, b := range append(peakBooks(), longBooks()...) {
		for size := int64(1); size <= 6; size++ {
			for i, x := range treesOf(b.sig, []int64{-1, -2}, size) {
				if size == 6 && i%8 > 0 {
					continue
				}
				for _, y := range b.meetings(x) {
					if checkInstance(t, b, x, y) {
						met++
					}
				}
			}
		}
	}
	if met < 3000 {
		t.Error("too few of the steps test much", met)
	}
}

// Steps in a larger term that is made of a crossing, and under a substitution.
func TestLongOverlappingStepsAreInstancesOfPeaks(t *testing.T) {
	m, met, tooLong := makerOf(41), 0, 0
	for i := range 400 {
		b := m.crossed(3)
		if i%3 == 0 {
			b = peakBooks()[i%len(peakBooks())]
		}
		crossings := b.crossings()
		if len(crossings) == 0 {
			continue
		}
		c := crossings[m.IntN(len(crossings))]
		if !c.fits {
			continue
		}
		f := filling{}
		for _, j := range c.top.varSet() {
			f[j] = m.tree(b.sig, 1+m.Int64N(4))
		}
		x := m.tree(b.sig, 1+m.Int64N(10))
		spots := x.spots()
		x = x.put(spots[m.IntN(len(spots))].path, c.top.filled(f))
		if x.size() > impl.MaxTerm {
			continue
		}
		meetings := b.meetings(x)
		if len(meetings) == 0 {
			t.Fatal(b.system(), c.peak(), x.notation())
		}
		for _, y := range meetings {
			if checkInstance(t, b, x, y) {
				met++
			} else {
				tooLong++
			}
		}
	}
	if met < 500 || tooLong < 10 {
		t.Error("too few of the steps test much", met, tooLong)
	}
}

// P11: a critical peak consists of two steps, and so does each instance of it,
// also inside a term.
func TestPeaksAreTwoSteps(t *testing.T) {
	m, made, tooLong := makerOf(42), 0, 0
	for _, b := range peakBooks() {
		sys := b.system()
		peaks, is := impl.PeaksOf(sys)
		if !is || len(peaks) == 0 {
			t.Fatal(sys, peaks)
		}
		for i, c := range b.crossings() {
			checkTwoSteps(t, sys, peaks[i], spotAt(c.top.spots(), c.place.path))
			for range 20 {
				f := filling{}
				for _, j := range c.top.varSet() {
					if m.IntN(4) > 0 {
						f[j] = m.tree(b.sig, 1+m.Int64N(36))
					}
				}
				if checkPeakUnder(t, b, c, f) {
					made++
				} else {
					tooLong++
				}
			}
		}
	}
	if made < 500 || tooLong < 100 {
		t.Error("too few of the peaks test much", made, tooLong)
	}
}

// checkTwoSteps checks that the two steps are made from Top.
func checkTwoSteps(t *testing.T, sys impl.System, p impl.Peak, place int64) {
	t.Helper()
	left, isLeft := impl.StepAt(sys, p.Top, place, p.Under)
	right, isRight := impl.StepAt(sys, p.Top, 0, p.Over)
	if !isLeft || !isRight || !slices.Equal(left, p.Left) || !slices.Equal(right, p.Right) {
		t.Fatal(sys, p, left, right)
	}
}

// checkPeakUnder checks the peak with its variables replaced, also by a
// substitution that is not plain, and reports whether there is one.
func checkPeakUnder(t *testing.T, b book, c crossing, f filling) bool {
	t.Helper()
	sys, want := b.system(), c.filled(f)
	for _, s := range []impl.Subst{f.plain(), f.subst(0), f.subst(impl.MaxVars)} {
		got, is := impl.PeakUnder(sys, c.peak(), s)
		if is != want.fits || !equalPeaks(got, want.peak()) || impl.PeakOk(sys, got) != is {
			t.Fatal(sys, c.peak(), s, got, is)
		}
		if is {
			checkTwoSteps(t, sys, got, spotAt(want.top.spots(), want.place.path))
		}
	}
	return want.fits
}

// A peak under one substitution and then another one is the peak under both.
func TestPeaksUnderTwoSubstitutions(t *testing.T) {
	for _, b := range peakBooks() {
		sys := b.system()
		for _, c := range b.crossings() {
			for _, f := range someFillings() {
				s := f.subst(0)
				one, is := impl.PeakUnder(sys, c.peak(), s)
				if !impl.SubstOk(b.sig, s) || !is {
					continue
				}
				for _, u := range []impl.Subst{substOf([]int64{-2}, []int64{-1}), full([]int64{-5}), only(2, c.top.notation())} {
					two, does := impl.PeakUnder(sys, one, u)
					both, _ := impl.Composed(b.sig, s, u)
					direct, done := impl.PeakUnder(sys, c.peak(), both)
					if does && (!done || !equalPeaks(two, direct)) {
						t.Fatal(sys, c.peak(), s, u, two, direct)
					}
				}
			}
		}
	}
}

// Each of the three terms may have MaxTerm numbers, and none may have one more.
func TestPeakUnderUpToTheLimit(t *testing.T) {
	x, y := variable(0), variable(1)
	books := []book{
		bookOf(ruling{onTwo(onOne(x), onTwo(x, y)), y}, ruling{tower(2, x), x}),
		bookOf(ruling{onTwo(onOne(x), y), y}, ruling{tower(2, x), onTwo(x, onOne(x))}),
		bookOf(ruling{onTwo(onOne(x), y), onTwo(x, onTwo(x, y))}, ruling{tower(2, x), x}),
		bookOf(assoc()),
	}
	for longest, b := range books {
		c := b.crossings()[0]
		sizes := func(f filling) []int64 {
			d := c.filled(f)
			return []int64{d.top.size(), d.left.size(), d.right.size()}
		}
		counts := [2]int{}
		for first := 1; first <= 59; first++ {
			for second := 1; second <= 59; second++ {
				f := filling{0: tower(first-1, variable(7)), 1: tower(second-1, tree{head: 2})}
				if most := slices.Max(sizes(f)); most == 60 || most == 61 {
					if longest < 3 && sizes(f)[longest] != most {
						t.Fatal(sizes(f))
					}
					counts[most-60]++
					if checkPeakUnder(t, b, c, f) != (most == 60) {
						t.Fatal(b.system(), first, second)
					}
				}
			}
		}
		if min(counts[0], counts[1]) == 0 {
			t.Error(b.system(), counts)
		}
	}
}

// checkAccepted checks PeakOk and PeakUnder against the moves of the tree on top.
func checkAccepted(t *testing.T, b book, c crossing) bool {
	t.Helper()
	p := impl.Peak{Top: c.top.notation(), Left: c.left.notation(), Right: c.right.notation(), At: c.place.at, Under: c.under, Over: c.over}
	is := impl.PeakOk(b.system(), p)
	if is != b.accepts(c) {
		t.Fatal(b.system(), p, is)
	}
	got, does := impl.PeakUnder(b.system(), p, substOf())
	if does != is || is && !equalPeaks(got, p) || !is && !isZeroPeak(got) {
		t.Fatal(b.system(), p, got, does)
	}
	return is
}

// changed returns peaks of which one field differs from c, most of which are
// no peaks of the book.
func (b book) changed(c crossing) []crossing {
	var found []crossing
	trees := []tree{c.top, c.left, c.right, variable(0), {head: 2}, onOne(c.top), onOne(c.left), onOne(c.right)}
	for _, f := range []filling{{0: variable(1)}, {0: onOne(variable(0))}, {0: variable(1), 1: variable(0)}, {0: variable(23)}} {
		trees = append(trees, c.top.filled(f), c.left.filled(f), c.right.filled(f))
	}
	for _, m := range b.moves(c.top) {
		trees = append(trees, m.to)
	}
	for _, x := range trees {
		top, left, right := c, c, c
		top.top, left.left, right.right = x, x, x
		found = append(found, top, left, right)
	}
	for rule := int64(-1); rule <= int64(len(b.list)); rule++ {
		over, under := c, c
		over.over, under.under = rule, rule
		found = append(found, over, under)
	}
	// A spot that is not there has no symbol.
	places := append(b.list[c.over].l.spots(), spot{at: -1, sub: variable(0)}, spot{at: b.list[c.over].l.size(), sub: variable(0)})
	for _, place := range places {
		other := c
		other.place = place
		found = append(found, other)
	}
	return found
}

func TestPeakOk(t *testing.T) {
	m, accepted, refused := makerOf(43), 0, 0
	for _, b := range append(peakBooks(), longBooks()[:5]...) {
		if b.sig.Arity[0] != 2 {
			continue
		}
		for _, c := range b.crossings() {
			instance := c.filled(filling{0: m.tree(b.sig, 2), 1: m.tree(b.sig, 3), 2: variable(0)})
			for _, from := range []crossing{c, instance} {
				if !checkAccepted(t, b, from) {
					t.Fatal(b.system(), from.peak())
				}
				for _, other := range b.changed(from) {
					if other.over >= 0 && other.over < int64(len(b.list)) {
						// The place belongs to another left side then.
						other.place = b.placeOf(other.over, other.place.at)
					}
					if checkAccepted(t, b, other) {
						accepted++
					} else {
						refused++
					}
				}
			}
		}
	}
	if accepted < 500 || refused < 5000 {
		t.Error("too few of the peaks test much", accepted, refused)
	}
}

// placeOf returns the spot at a position of a left side, or one without a symbol
// if there is no such position.
func (b book) placeOf(over, at int64) spot {
	for _, s := range b.list[over].l.spots() {
		if s.at == at {
			return s
		}
	}
	return spot{at: at, sub: variable(0)}
}

// Peaks that are not most general, some of them at positions at which the left
// side and Top are not alike.
func TestPeaksThatAreNotMostGeneral(t *testing.T) {
	sys := systemOf([]int64{0, -1, 1, -2}, []int64{0, -2, -1}, []int64{1, 2}, []int64{2}, []int64{1, -1}, []int64{-1})
	good := []impl.Peak{
		{Top: []int64{0, -1, 1, 2}, Left: []int64{0, -1, 2}, Right: []int64{0, 2, -1}, At: 2, Under: 1},
		{Top: []int64{0, -24, 1, 2}, Left: []int64{0, -24, 2}, Right: []int64{0, 2, -24}, At: 2, Under: 1},
		{Top: []int64{0, 1, 1, 2, 1, 2}, Left: []int64{0, 1, 1, 2, 2}, Right: []int64{0, 2, 1, 1, 2}, At: 2, Under: 1},
		{Top: []int64{0, -2, 1, -2}, Left: []int64{0, -2, -2}, Right: []int64{0, -2, -2}, At: 2, Under: 2},
		{Top: []int64{0, 0, -1, -1, 1, 0, 1, -5, 2}, Left: []int64{0, 0, -1, -1, 0, 1, -5, 2}, Right: []int64{0, 0, 1, -5, 2, 0, -1, -1}, At: 2, Under: 2},
		{Top: []int64{1, 2}, Left: []int64{2}, Right: []int64{2}, Under: 1, Over: 2},
	}
	for i, p := range good {
		if !impl.PeakOk(sys, p) {
			t.Error(i, p)
		}
	}
	bad := []impl.Peak{
		// A step at another position of Top with the same result.
		{Top: []int64{0, 1, 2, 1, 2}, Left: []int64{0, 2, 1, 2}, Right: []int64{0, 2, 1, 2}, At: 2, Under: 1},
		{Top: []int64{0, 1, 2, 1, 2}, Left: []int64{0, 2, 1, 2}, Right: []int64{0, 2, 1, 2}, At: 1, Under: 1},
		// At is where the step is in Top, not in the left side.
		{Top: []int64{0, 1, -1, 1, 2}, Left: []int64{0, 1, -1, 2}, Right: []int64{0, 2, 1, -1}, At: 3, Under: 1},
		// The second step is below a variable of the left side.
		{Top: []int64{0, -1, 1, 1, 2}, Left: []int64{0, -1, 1, 2}, Right: []int64{0, 1, 2, -1}, At: 3, Under: 1},
		// A rule with itself at position 0, and a rule with another one of which Top
		// is no instance.
		{Top: []int64{1, 2}, Left: []int64{2}, Right: []int64{2}, Under: 2, Over: 2},
		{Top: []int64{1, -1}, Left: []int64{2}, Right: []int64{-1}, Under: 1, Over: 2},
		// The steps in the wrong order.
		{Top: []int64{0, -1, 1, 2}, Left: []int64{0, 2, -1}, Right: []int64{0, -1, 2}, At: 2, Under: 1},
		{Top: []int64{0, -1, 1, 2}, Left: []int64{0, -1, 2}, Right: []int64{0, 2, -1}, At: 2, Under: 0, Over: 1},
	}
	for i, p := range bad {
		if impl.PeakOk(sys, p) {
			t.Error(i, p)
		}
		if got, is := impl.PeakUnder(sys, p, substOf()); is || !isZeroPeak(got) {
			t.Error(i, p, got)
		}
	}
}

// A step whose result would be too long is none.
func TestPeaksOfStepsThatAreTooLong(t *testing.T) {
	b := bookOf(ruling{onOne(variable(0)), onTwo(variable(0), variable(0))}, ruling{onOne(tree{head: 2}), tree{head: 2}}, ruling{tree{head: 2}, onOne(tree{head: 2})})
	for size := 1; size <= 59; size++ {
		x := tower(size, tree{head: 2})
		for _, c := range []crossing{
			{over: 0, under: 0, place: spot{}, top: x, left: onTwo(x.args[0], x.args[0]), right: onTwo(x.args[0], x.args[0])},
			{over: 0, under: 1, place: spot{}, top: x, left: x, right: onTwo(x.args[0], x.args[0])},
		} {
			c.place.sub = b.list[0].l
			checkAccepted(t, b, c)
		}
	}
	top, right := nested(60), []int64{2}
	sys := systemOf(top, right, []int64{2}, []int64{1, 2}, []int64{2}, []int64{2})
	for left, want := range [][]int64{nil, {}, top, nested(61)} {
		p := impl.Peak{Top: top, Left: want, Right: right, At: 59, Under: 1}
		if impl.PeakOk(sys, p) {
			t.Error(left)
		}
		p.Under = 2
		if impl.PeakOk(sys, p) != (left == 2) {
			t.Error(left)
		}
	}
}

// All fields count, valid or not, and nothing else does.
func TestSamePeak(t *testing.T) {
	peaks := []impl.Peak{
		{}, {At: 1}, {Under: 1}, {Over: 1}, {Top: []int64{2}}, {Left: []int64{2}}, {Right: []int64{2}},
		{At: -1}, {Under: 1 << 32}, {Over: -1 << 63}, {Top: []int64{2, 2}}, {Top: []int64{-25}}, {Left: []int64{0}}, {Right: make([]int64, 1000)},
		{Top: []int64{2}, Left: []int64{2}}, {Left: []int64{2}, Right: []int64{2}}, {Top: []int64{2}, Right: []int64{2}}, {Top: []int64{1, 2}}, {Top: []int64{2, 1}},
	}
	for _, b := range peakBooks() {
		for _, c := range b.crossings() {
			peaks = append(peaks, c.peak())
		}
	}
	for i, p := range peaks {
		for j, q := range peaks {
			if impl.SamePeak(p, clonePeak(q)) != equalPeaks(p, q) || i == j && !impl.SamePeak(p, clonePeak(q)) {
				t.Fatal(p, q)
			}
		}
		if impl.TrivialPeak(p) != slices.Equal(p.Left, p.Right) {
			t.Fatal(p)
		}
	}
	empty := impl.Peak{Top: []int64{}, Left: []int64{}, Right: []int64{}}
	if !impl.SamePeak(empty, impl.Peak{}) || !impl.SamePeak(impl.Peak{}, empty) || !impl.TrivialPeak(empty) || !impl.TrivialPeak(impl.Peak{Left: []int64{}}) {
		t.Error("nil and empty")
	}
}

func TestTrivialPeak(t *testing.T) {
	cases := []struct {
		left, right []int64
		want        bool
	}{
		{nil, nil, true}, {nil, []int64{}, true}, {[]int64{2}, []int64{2}, true}, {[]int64{2}, nil, false}, {nil, []int64{2}, false},
		{[]int64{1, 2}, []int64{2}, false}, {[]int64{-1}, []int64{-2}, false}, {[]int64{0}, []int64{0}, true}, {[]int64{-25}, []int64{-25}, true},
		{nested(61), nested(61), true}, {nested(60), nested(61), false}, {[]int64{0, -1, -2}, []int64{0, -2, -1}, false},
	}
	for _, c := range cases {
		for _, p := range []impl.Peak{{Left: c.left, Right: c.right}, {Left: c.left, Right: c.right, Top: []int64{2}, At: -1, Under: 5}} {
			if impl.TrivialPeak(p) != c.want {
				t.Error(c)
			}
		}
	}
}
