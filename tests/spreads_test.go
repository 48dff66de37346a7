package tests

import (
	"math"
	"slices"

	"loop.example/g00895/impl"
)

// noDepths are numbers of steps that are not valid.
func noDepths() []int64 {
	return []int64{-1, -2, -20, 21, 22, 40, 60, 256, 1 << 32, 1<<32 + 5, -1<<32 + 5, math.MaxInt64, math.MaxInt64 - 1, math.MinInt64, math.MinInt64 + 5}
}

// A spread lists the trails by which trees are reached, in breadth-first order,
// each to another tree, and tells whether no other tree is reached. What the
// tests expect of reached terms is computed from spreads, layer by layer.
type spread struct {
	trails []trail
	all    bool
}

// spread returns what is reached from x by at most so many moves.
func (b book) spread(x tree, most int64) spread {
	found := []trail{{from: x}}
	last, keys := found, map[string]bool{x.key(): true}
	for range most {
		var next []trail
		for _, r := range last {
			for _, m := range b.moves(r.last()) {
				if !m.isLong() && !keys[m.to.key()] {
					keys[m.to.key()] = true
					next = append(next, trail{x, append(slices.Clone(r.moves), m)})
				}
			}
		}
		found = append(found, next...)
		if len(found) > impl.MaxReach {
			return spread{found[:impl.MaxReach], false}
		}
		last = next
	}
	return spread{found, true}
}

// isAmong reports whether u is one of the terms.
func isAmong(terms [][]int64, u []int64) bool {
	isIt := func(x []int64) bool { return slices.Equal(x, u) }
	return slices.ContainsFunc(terms, isIt)
}

// terms lists the terms that are reached.
func (s spread) terms() [][]int64 {
	var found [][]int64
	for _, r := range s.trails {
		found = append(found, r.last().notation())
	}
	return found
}

// to returns the trail to y, and whether there is one.
func (s spread) to(y tree) (trail, bool) {
	isIt := func(r trail) bool { return r.last().isSame(y) }
	if i := slices.IndexFunc(s.trails, isIt); i >= 0 {
		return s.trails[i], true
	}
	return trail{}, false
}

// meeting returns the trails of two spreads to the first tree of the one that is
// in the other one too, and whether there is such a tree.
func (s spread) meeting(other spread) (trail, trail, bool) {
	for _, r := range s.trails {
		if back, is := other.to(r.last()); is {
			return r, back, true
		}
	}
	return trail{}, trail{}, false
}

// normals lists the terms that are reached and from which there are no moves.
func (s spread) normals(b book) [][]int64 {
	var found [][]int64
	for _, r := range s.trails {
		if len(b.moves(r.last())) == 0 {
			found = append(found, r.last().notation())
		}
	}
	return found
}

// next lists the different trees to which one move leads from those of a layer.
func (b book) next(layer []tree) []tree {
	var found []tree
	keys := map[string]bool{}
	for _, x := range layer {
		for _, m := range b.moves(x) {
			if !keys[m.to.key()] {
				keys[m.to.key()] = true
				found = append(found, m.to)
			}
		}
	}
	return found
}

// isWide reports whether, after the same number of moves from x, more than
// MaxReach different trees are met, or one that is too large for a term.
func (b book) isWide(x tree, most int64) bool {
	isLarge := func(y tree) bool { return y.size() > impl.MaxTerm }
	layer := []tree{x}
	for range most {
		layer = b.next(layer)
		if len(layer) > impl.MaxReach || slices.ContainsFunc(layer, isLarge) {
			return true
		}
	}
	return false
}

// A heights tells of the trees that were tried how many moves from each of them
// are the most, or -1 if there are more than are allowed.
type heights map[int64]map[string]int64

// tried returns the most moves from x, found by trying every move. It returns -1
// if there are more than so many, or one of them is to a tree that is too large.
func (h heights) tried(b book, x tree, most int64) int64 {
	if h[most] == nil {
		h[most] = map[string]int64{}
	}
	if n, is := h[most][x.key()]; is {
		return n
	}
	longest := int64(0)
	for _, m := range b.moves(x) {
		if most == 0 || m.isLong() {
			longest = -1
			break
		}
		rest := h.tried(b, m.to, most-1)
		if rest < 0 {
			longest = -1
			break
		}
		longest = max(longest, rest+1)
	}
	h[most][x.key()] = longest
	return longest
}

// longest is the length of the longest rewrite sequence from x, or -1 as the
// document tells.
func (b book) longest(x tree, most int64) int64 {
	if b.isWide(x, most) {
		return -1
	}
	return heights{}.tried(b, x, most)
}

// tails is a system from whose term [0] exactly 2n+1+min(n,high+1) terms are
// reached by n steps: two towers that grow without an end, and one that shrinks
// from a height.
func tails(high int) impl.System {
	third := append(append([]int64{4}, slices.Repeat([]int64{5}, high)...), 1)
	return impl.System{Sig: impl.Sig{Arity: []int64{0, 0, 1, 1, 1, 1}}, Rules: rulesOf([][]int64{
		{0}, {2, 1}, {0}, {3, 1}, {0}, third, {2, -1}, {2, 5, -1}, {3, -1}, {3, 5, -1}, {4, 5, -1}, {4, -1},
	})}
}

// endingBooks have no sequence without an end.
func endingBooks() []book {
	return []book{
		bookOf(plusZero(), plusNext()),
		bookOf(shrink(), merge()),
		bookOf(merge(), plusNext(), plusZero()),
		bookOf(double(), merge()),
		bookOf(someRulings()[4], plusZero(), ruling{onOne(tree{head: 2}), tree{head: 2}}),
	}
}

// bookOrEnding returns any book, or for most numbers one of the ending ones.
func (m maker) bookOrEnding(i int) book {
	if i%4 == 0 {
		return m.anyBook()
	}
	return endingBooks()[i%len(endingBooks())]
}

// towers is f0 of towers with these heights, the last ones innermost.
func towers(heights ...int) tree {
	var trees []tree
	for _, high := range heights {
		trees = append(trees, tower(high, tree{head: 2}))
	}
	return row(trees...)
}
