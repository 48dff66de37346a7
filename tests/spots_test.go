package tests

import (
	"slices"

	"loop.example/g00895/impl"
)

// A spot is a subterm of a tree with the path that leads to it, and where it
// and the subterms around it stand. What the tests expect of positions is
// computed from spots: one is inside the other if its path starts with the
// other's path.
type spot struct {
	at    int64
	path  []int64
	above []int64
	sub   tree
}

// spots lists the subterms of x in the order of their positions.
func (x tree) spots() []spot { return x.spotsFrom(spot{sub: x}) }

func (x tree) spotsFrom(here spot) []spot {
	found := []spot{here}
	next := here.at + 1
	for i, arg := range x.args {
		below := spot{at: next, sub: arg}
		below.path = append(slices.Clone(here.path), int64(i))
		below.above = append(slices.Clone(here.above), here.at)
		found = append(found, arg.spotsFrom(below)...)
		next += arg.size()
	}
	return found
}

func (s spot) inside(around spot) bool {
	return len(s.path) >= len(around.path) && slices.Equal(s.path[:len(around.path)], around.path)
}

func (s spot) apart(other spot) bool { return !s.inside(other) && !other.inside(s) }

// put returns x with the subterm at the end of a path replaced.
func (x tree) put(path []int64, u tree) tree {
	if len(path) == 0 {
		return u
	}
	result := tree{head: x.head, args: slices.Clone(x.args)}
	result.args[path[0]] = x.args[path[0]].put(path[1:], u)
	return result
}

// spotAt returns the position to which a path leads, or -1.
func spotAt(spots []spot, path []int64) int64 {
	for _, s := range spots {
		if slices.Equal(s.path, path) {
			return s.at
		}
	}
	return -1
}

// deepest returns the position of the first of the spots with the longest path.
func deepest(spots []spot) int64 {
	found := spots[0]
	for _, s := range spots {
		if len(s.path) > len(found.path) {
			found = s
		}
	}
	return found.at
}

// A signed is a tree and the signature that it belongs to.
type signed struct {
	sig impl.Sig
	x   tree
}

// signedTrees returns every tree of at most so many elements over two
// signatures, the second one with a symbol of the most arguments.
func signedTrees(most int64) []signed {
	var found []signed
	for _, sig := range []impl.Sig{abc(), {Arity: []int64{0, 3, 1}}} {
		for size := int64(1); size <= most; size++ {
			for _, x := range treesOf(sig, []int64{-1, -24}, size) {
				found = append(found, signed{sig, x})
			}
		}
	}
	return found
}
