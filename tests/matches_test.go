package tests

import (
	"slices"

	"loop.example/g00895/impl"
)

func (x tree) isSame(y tree) bool { return slices.Equal(x.notation(), y.notation()) }

// matchings lists every filling that gives each variable of p a subterm of x
// and turns p into x. What the tests expect of a match is this list, found by
// trying them all: a variable of p can stand for nothing but a subterm of x.
func (p tree) matchings(x tree) []filling {
	var parts []tree
	for _, s := range x.spots() {
		isSame := func(part tree) bool { return part.isSame(s.sub) }
		if !slices.ContainsFunc(parts, isSame) {
			parts = append(parts, s.sub)
		}
	}
	var found []filling
	for _, f := range fillingsOf(p.varSet(), parts) {
		if len(f) == len(p.varSet()) && p.filled(f).isSame(x) {
			found = append(found, f)
		}
	}
	return found
}

// isAround reports whether x is an instance of p.
func (p tree) isAround(x tree) bool { return len(p.matchings(x)) > 0 }

// isAbove reports whether p is more general than x.
func (p tree) isAbove(x tree) bool { return p.isAround(x) && !x.isAround(p) }

// embeds lists the positions of the subterms of x that are instances of p.
func (p tree) embeds(x tree) []int64 {
	var found []int64
	for _, s := range x.spots() {
		if p.isAround(s.sub) {
			found = append(found, s.at)
		}
	}
	return found
}

// A herd is a list of patterns with what holds between each two of them.
type herd struct {
	trees                     []tree
	isAround, isAbove, isLike [][]bool
}

func herdOf(trees []tree) herd {
	return herd{trees, tableOf(trees, trees, tree.isAround), tableOf(trees, trees, tree.isAbove), tableOf(trees, trees, tree.isVariant)}
}

// tableOf tells for each of ps and each of xs whether the two are so related.
func tableOf(ps, xs []tree, holds func(p, x tree) bool) [][]bool {
	rows := make([][]bool, len(ps))
	for i, p := range ps {
		for _, x := range xs {
			rows[i] = append(rows[i], holds(p, x))
		}
	}
	return rows
}

// notations returns the terms of a list of members of the herd.
func (h herd) notations(list []int) [][]int64 {
	var found [][]int64
	for _, m := range list {
		found = append(found, h.trees[m].notation())
	}
	return found
}

// around lists the indices of those members of the list that x is an instance of.
func (h herd) around(list []int, x int) []int64 {
	var found []int64
	for i, m := range list {
		if h.isAround[m][x] {
			found = append(found, int64(i))
		}
	}
	return found
}

// tops lists the indices of those members of the list that no member is above
// and of which no earlier member is a variant.
func (h herd) tops(list []int) []int64 {
	var found []int64
	for i, m := range list {
		isTop := true
		for j, other := range list {
			if h.isAbove[other][m] || j < i && h.isLike[other][m] {
				isTop = false
			}
		}
		if isTop {
			found = append(found, int64(i))
		}
	}
	return found
}

// someHerd has variants, repeated variables, variables, symbols of each arity
// and members that are above others in more than one way.
func someHerd() herd {
	x, y, z, c := variable(0), variable(1), variable(23), tree{head: 2}
	f := func(a, b tree) tree { return tree{head: 0, args: []tree{a, b}} }
	g := func(a tree) tree { return tree{head: 1, args: []tree{a}} }
	return herdOf([]tree{
		x, z, c, g(x), g(z), g(c), g(g(y)), f(x, y), f(y, x), f(z, z), f(x, x),
		f(x, g(y)), f(g(x), y), f(g(x), g(y)), f(g(x), g(x)), f(c, x), f(x, c), f(c, c), f(g(c), g(c)),
	})
}

// lists returns every list of at most so many numbers below size.
func lists(size int, most int) [][]int {
	found := [][]int{nil}
	last := found
	for range most {
		var longer [][]int
		for _, list := range last {
			for m := range size {
				longer = append(longer, append(slices.Clone(list), m))
			}
		}
		found = append(found, longer...)
		last = longer
	}
	return found
}

// longLists returns lists of exactly MaxRules numbers below size, each made by
// steps of one length from one start, so that most of them repeat none.
func longLists(size int) [][]int {
	var found [][]int
	for start := range size {
		for step := range size {
			var list []int
			for k := range impl.MaxRules {
				list = append(list, (start+k*step)%size)
			}
			found = append(found, list)
		}
	}
	return found
}
