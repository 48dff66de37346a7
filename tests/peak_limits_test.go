package tests

import (
	"slices"
	"testing"

	"loop.example/g00895/impl"
)

// checkLastPeak checks that the rule under overlaps the rule over at one position,
// and whether there is a peak of it, with terms of these lengths.
func checkLastPeak(t *testing.T, over, under ruling, at int64, sizes [3]int64) {
	t.Helper()
	sys := bookOf(over, under).system()
	if got := impl.OverlapsIn(sys, 0, 1); !slices.Equal(got, []int64{at}) {
		t.Fatal(sys, got)
	}
	fits := slices.Max(sizes[:]) <= 60
	p, is := impl.PeakAt(sys, 0, at, 1)
	if is != fits || !is && !isZeroPeak(p) {
		t.Fatal(sys, sizes, p, is)
	}
	if is && sizes != [3]int64{int64(len(p.Top)), int64(len(p.Left)), int64(len(p.Right))} {
		t.Fatal(sys, sizes, p)
	}
	if peaks, are := impl.PeaksOf(sys); are != fits || !are && len(peaks)+len(impl.RootPeaks(sys)) != 0 {
		t.Fatal(sys, sizes, peaks)
	}
}

// Each of the three terms may have MaxTerm numbers, and none may have one more,
// also if the other two are short.
func TestLengthsOfPeaks(t *testing.T) {
	x, y, c := variable(0), variable(1), tree{head: 2}
	for size := int64(2); size <= 58; size++ {
		long := tower(int(size)-1, c)
		for pad := range 2 {
			// Only Top is long.
			over := ruling{tower(pad, onTwo(onOne(x), x)), c}
			checkLastPeak(t, over, ruling{onOne(long), c}, int64(pad)+1, [3]int64{int64(pad) + 2 + 2*size, int64(pad) + 2 + size, 1})
			// Right repeats what is only once in Top.
			over = ruling{onTwo(onOne(x), c), tower(pad, onTwo(x, x))}
			checkLastPeak(t, over, ruling{onOne(long), c}, 1, [3]int64{3 + size, 3, int64(pad) + 1 + 2*size})
		}
		// Left has a right side that is longer than its left side.
		over := ruling{onTwo(onOne(x), y), y}
		checkLastPeak(t, over, ruling{onTwo(x, y), long}, 0, [3]int64{4, size, 1})
		checkLastPeak(t, over, ruling{onOne(c), long}, 1, [3]int64{4, 2 + size, 1})
		checkLastPeak(t, ruling{tower(3, onTwo(x, y)), y}, ruling{onTwo(x, y), long}, 3, [3]int64{6, 3 + size, 1})
		// Left repeats what is only once in Top.
		if size > 57 {
			continue
		}
		checkLastPeak(t, ruling{onOne(onTwo(long, x)), x}, ruling{onTwo(x, y), onTwo(x, x)}, 1, [3]int64{3 + size, 2 + 2*size, 1})
	}
	// The left sides themselves may have MaxTerm numbers.
	checkLastPeak(t, ruling{tower(59, c), c}, ruling{c, c}, 59, [3]int64{60, 60, 1})
	checkLastPeak(t, ruling{tower(59, c), c}, ruling{c, onOne(c)}, 59, [3]int64{60, 61, 1})
	sys := bookOf(ruling{tower(59, x), x}, ruling{tower(59, c), c}).system()
	if got := impl.OverlapsIn(sys, 0, 1); !slices.Equal(got, everyPlace(59)) {
		t.Error(got)
	}
	for at := range int64(59) {
		p, is := impl.PeakAt(sys, 0, at, 1)
		if is != (at == 0) || !is && !isZeroPeak(p) || is && len(p.Top) != 60 {
			t.Error(at, p)
		}
	}
}

// Top may have MaxVars variables, but not one more, even if each rule alone has
// fewer. Each rule alone may have MaxVars of them.
func TestVariablesOfPeaks(t *testing.T) {
	sig := impl.Sig{Arity: []int64{2, 1, 0, 2}}
	pair := func(a, b tree) tree { return tree{head: 3, args: []tree{a, b}} }
	for a := 1; a <= 23; a++ {
		for b := 1; b <= 24 && a+b <= 26; b++ {
			over := ruling{pair(onOne(variable(23)), rowOf(a, variable)), variable(23)}
			under := ruling{onOne(rowOf(b, variable)), variable(0)}
			sys := book{sig, []ruling{over, under}}.system()
			p, is := impl.PeakAt(sys, 0, 1, 1)
			if is != (a+b <= 24) || !is && !isZeroPeak(p) || is && len(impl.VarsOf(sig, p.Top)) != a+b {
				t.Fatal(a, b, p, is)
			}
			if peaks, are := impl.PeaksOf(sys); are != is || len(peaks) > 1 || !slices.Equal(impl.OverlapsIn(sys, 0, 1), []int64{1}) {
				t.Fatal(a, b, peaks)
			}
		}
	}
	all := rowOf(24, variable)
	sys := bookOf(ruling{all, variable(0)}, ruling{all, variable(23)}).system()
	p, is := impl.PeakAt(sys, 0, 0, 1)
	if want := (impl.Peak{Top: all.notation(), Left: []int64{-24}, Right: []int64{-1}, Under: 1}); !is || !equalPeaks(p, want) {
		t.Error(p, is)
	}
	// One place further in, a variable of each rule is apart from the others.
	if p, is := impl.PeakAt(sys, 0, 2, 1); is || !isZeroPeak(p) || len(impl.OverlapsIn(sys, 0, 1)) < 20 {
		t.Error(p, impl.OverlapsIn(sys, 0, 1))
	}
}

// growers is a book whose rulings overlap exactly so often as their heights say:
// below f1, each of the first two overlaps itself except at position 0, and the
// other one at every position. The third one overlaps itself below another symbol.
func growers(one, two, three int) book {
	x := variable(0)
	other := x
	for range three {
		other = tree{head: 3, args: []tree{other}}
	}
	sig := impl.Sig{Arity: []int64{2, 1, 0, 1}}
	return book{sig, []ruling{{tower(one, x), x}, {tower(two, x), tower(two, x)}, {other, x}}}
}

func TestNumberOfPeaks(t *testing.T) {
	if impl.MaxPeaks != 64 {
		t.Fatal(impl.MaxPeaks)
	}
	for one := 3; one <= 4; one++ {
		for two := 26; two <= 30; two++ {
			for three := 1; three <= 8; three++ {
				b := growers(one, two, three)
				sys, want := b.system(), 2*(one+two)-2+three-1
				got, is := impl.PeaksOf(sys)
				if is != (want <= 64) || is && len(got) != want || !is && len(got) != 0 {
					t.Fatal(one, two, three, want, len(got), is)
				}
				roots, isRoot := impl.RootPeaks(sys), 0
				if is {
					isRoot = 2
				}
				if len(roots) != isRoot {
					t.Fatal(one, two, three, roots)
				}
				if places := impl.OverlapsIn(sys, 1, 0); len(places) != two {
					t.Fatal(one, two, three, places)
				}
			}
		}
	}
	for _, three := range []int{2, 3, 4} {
		if got := checkPeaks(t, growers(4, 28, three)); len(got) != 61+three {
			t.Error(three, len(got))
		}
	}
	// Of eight equal rules, each has seven others, and of nine, eight.
	for size, want := range map[int]int{1: 0, 2: 2, 8: 56, 9: 0, 12: 0} {
		if got, is := impl.PeaksOf(many(size, []int64{2}, []int64{2})); len(got) != want || is != (size <= 8) {
			t.Error(size, len(got), is)
		}
	}
}

// growing is two rulings whose left sides can be made equal, but with each of the
// steps the next variable becomes a tree that has several of the one before it. The
// variables belong to the two rulings in turn.
func growing(steps int64, many func(x tree) tree, list func(trees ...tree) tree) [2]ruling {
	var sides [2][]tree
	for i := range steps {
		sides[i%2] = append(sides[i%2], variable(i+1))
		sides[1-i%2] = append(sides[1-i%2], many(variable(i)))
	}
	return [2]ruling{{list(sides[0]...), variable(1)}, {list(sides[1]...), variable(0)}}
}

// doubling is growing with two of each variable, over the example's signature.
func doubling(steps int64) [2]ruling {
	return growing(steps, func(x tree) tree { return onTwo(x, x) }, row)
}

// Rules overlap also if they are unifiable only by terms that are too long. There
// is no peak then.
func TestOverlapsWithoutAPeak(t *testing.T) {
	for steps := int64(2); steps <= 20; steps++ {
		rulings := doubling(steps)
		b := bookOf(rulings[:]...)
		p, is := impl.PeakAt(b.system(), 0, 0, 1)
		if is != (steps <= 4) || !is && !isZeroPeak(p) {
			t.Fatal(steps, p, is)
		}
		if got := impl.OverlapsIn(b.system(), 0, 1); len(got) == 0 || got[0] != 0 {
			t.Fatal(steps, got)
		}
		if steps%5 == 0 {
			checkOverlaps(t, b, b.crossings())
		}
	}
	// The longest of these variables would become a tree of far more numbers than
	// there is memory.
	rulings := growing(19, func(x tree) tree { return stair(x, x, x) }, stair)
	b := book{impl.Sig{Arity: []int64{0, 3}}, rulings[:]}
	if got := impl.OverlapsIn(b.system(), 0, 1); len(got) == 0 || got[0] != 0 || max(rulings[0].l.size(), rulings[1].l.size()) > 60 {
		t.Fatal(got)
	}
	checkOverlaps(t, b, b.crossings())
	// One variable becomes too long, though Left and Right do not have it.
	x, y, c := variable(0), variable(1), tree{head: 2}
	sys := bookOf(ruling{onTwo(onOne(y), onTwo(y, c)), c}, ruling{onOne(tower(28, x)), c}).system()
	if got, is := impl.PeaksOf(sys); is || len(got) != 0 || !slices.Equal(impl.OverlapsIn(sys, 0, 1), []int64{1}) {
		t.Error("two towers", got)
	}
	// The first one of two overlaps has a peak.
	sys = bookOf(ruling{onTwo(onOne(y), onTwo(y, onOne(c))), c}, ruling{onOne(c), c}, ruling{onOne(tower(40, x)), c}).system()
	if _, is := impl.PeakAt(sys, 0, 1, 1); !is {
		t.Error("no peak")
	}
	if got, is := impl.PeaksOf(sys); is || len(got)+len(impl.RootPeaks(sys)) != 0 {
		t.Error("one of the overlaps has no peak", got)
	}
}

// A difference behind variables that become very long is found, and so is a
// variable that would be inside itself.
func TestLongTermsThatDoNotUnify(t *testing.T) {
	x, y := variable(18), variable(17)
	cases := []struct {
		over, under tree
		want        bool
	}{
		{tree{head: 2}, onOne(x), false},
		{onTwo(y, y), x, true},
		{onTwo(y, y), onTwo(onOne(x), x), false},
		{onTwo(variable(1), y), onTwo(x, variable(0)), false},
		// The rule over has this variable, and the rule under another one.
		{onOne(y), y, true},
	}
	for i, c := range cases {
		rulings := doubling(18)
		rulings[0].l, rulings[1].l = onTwo(c.over, rulings[0].l), onTwo(c.under, rulings[1].l)
		b := bookOf(rulings[:]...)
		if !impl.SystemOk(b.system()) {
			t.Fatal(rulings[0].l.size(), rulings[1].l.size())
		}
		if got := impl.OverlapsIn(b.system(), 0, 1); slices.Contains(got, 0) != c.want {
			t.Error(i, got)
		}
		checkOverlaps(t, b, b.crossings())
	}
}
