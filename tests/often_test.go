package tests

import (
	"slices"
	"testing"

	"loop.example/g00895/impl"
)

func checkOften(t *testing.T, sig impl.Sig, s, u []int64, want bool) {
	t.Helper()
	if got := impl.OftenIn(sig, s, u); got != want {
		t.Fatal("OftenIn", sig, s, u, got)
	}
}

func TestOftenIn(t *testing.T) {
	all := allVars()
	cases := []struct {
		name        string
		s, u        []int64
		there, back bool
	}{
		{"the document's example", []int64{-1}, []int64{0, -1, -1}, true, false},
		{"a variable and itself", []int64{-1}, []int64{-1}, true, true},
		{"two variables", []int64{-1}, []int64{-2}, false, false},
		{"the last two variables", []int64{-23}, []int64{-24}, false, false},
		{"no variables", []int64{2}, []int64{1, 2}, true, true},
		{"no variables and one", []int64{2}, []int64{-24}, true, false},
		{"once each, exchanged", []int64{0, -1, -2}, []int64{0, -2, -1}, true, true},
		{"once each and one twice", []int64{0, -1, -2}, []int64{0, -1, -1}, false, false},
		{"once and twice of two", []int64{0, 0, -1, -2, -1}, []int64{0, 0, -2, -1, -2}, false, false},
		{"twice, at other places", []int64{0, -1, 1, -1}, []int64{1, 0, 0, -1, 2, -1}, true, true},
		{"twice and three times", []int64{0, -1, -1}, []int64{0, 0, -1, -1, -1}, true, false},
		{"a longer term with fewer variables", []int64{0, 1, 1, 1, 2, -1}, []int64{0, -1, -2}, true, false},
		{"all variables and the first one", []int64{-1}, all, true, false},
		{"all variables and the last one", []int64{-24}, all, true, false},
		{"all variables and the last one twice", []int64{0, -24, -24}, all, false, false},
		{"all variables, renamed", impl.Renamed(abc(), all), all, true, true},
		{"the same variable 30 times and 29 times", combOf(30, -1), combOf(29, -1), false, true},
		{"the last variable 30 times and 29 times", combOf(30, -24), combOf(29, -24), false, true},
	}
	for _, c := range cases {
		t.Run(c.name, func(t *testing.T) {
			checkOften(t, abc(), c.s, c.u, c.there)
			checkOften(t, abc(), c.u, c.s, c.back)
		})
	}
}

// combOf has the same number so many times below f0.
func combOf(many int, n int64) []int64 {
	return append(slices.Repeat([]int64{0, n}, many-1), n)
}

func TestOftenInOfSmallTerms(t *testing.T) {
	for _, sig := range []impl.Sig{abc(), {Arity: []int64{0, 3, 1}}} {
		var trees []tree
		for size := int64(1); size <= 5; size++ {
			trees = append(trees, treesOf(sig, []int64{-1, -24}, size)...)
		}
		for _, x := range trees {
			for _, y := range trees {
				checkOften(t, sig, x.notation(), y.notation(), x.isAsOften(y))
			}
		}
	}
}

func TestOftenInOfLongTerms(t *testing.T) {
	m, held := makerOf(75), map[bool]int{}
	for range 1000 {
		z, _ := m.blur(m.IntN(2) == 0)
		w := z.x.put(m.spot(z.x).path, m.spot(z.x).sub)
		for _, y := range []tree{z.x, z.y, w} {
			if y.size() <= impl.MaxTerm {
				checkOften(t, z.sig, z.x.notation(), y.notation(), z.x.isAsOften(y))
				checkOften(t, z.sig, y.notation(), z.x.notation(), y.isAsOften(z.x))
				held[z.x.isAsOften(y)]++
				held[y.isAsOften(z.x)]++
			}
		}
	}
	if held[true] < 2000 || held[false] < 500 {
		t.Error("too few of the terms test much", held)
	}
}

// A rule duplicates a variable where its left side has one less often.
func TestOftenInTellsWhatDuplicates(t *testing.T) {
	m := makerOf(76)
	for range 300 {
		b := m.book()
		for _, x := range b.list {
			sys := impl.System{Sig: b.sig, Rules: []impl.Rule{x.rule()}}
			checkOften(t, b.sig, x.r.notation(), x.l.notation(), !impl.DuplicatingIn(sys))
		}
	}
}
