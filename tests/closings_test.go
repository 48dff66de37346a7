package tests

import (
	"slices"

	"loop.example/g00895/impl"
)

// What the tests expect of joined peaks is computed from crossings and spreads.
// What they expect of parallel reductions is computed from moves that are apart
// from each other, and for long trees as the document tells.

// joining returns the trails by which the sides of a crossing are joined.
func (b book) joining(c crossing, steps int64) (trail, trail, bool) {
	return b.spread(c.left, steps).meeting(b.spread(c.right, steps))
}

// A reduct is what becomes of a tree by moves that are apart from each other.
type reduct struct {
	to    tree
	moves []move
}

// takes reports whether a move is apart from those made before.
func (r reduct) takes(m move) bool {
	isNear := func(other move) bool { return !spot{path: m.path}.apart(spot{path: other.path}) }
	return !slices.ContainsFunc(r.moves, isNear)
}

// with returns what becomes of the tree if a move is made too.
func (r reduct) with(m move) reduct {
	return reduct{r.to.put(m.path, m.to.at(m.path)), append(slices.Clone(r.moves), m)}
}

// reducts lists what becomes of x by every set of moves that are apart.
func (b book) reducts(x tree) []reduct {
	found := []reduct{{to: x}}
	for _, m := range b.moves(x) {
		for _, r := range found {
			if r.takes(m) {
				found = append(found, r.with(m))
			}
		}
	}
	return found
}

// isParallel reports whether x reduces in parallel to y.
func (b book) isParallel(x, y tree) bool {
	isIt := func(m move) bool { return len(m.path) == 0 && m.to.isSame(y) }
	if x.isSame(y) || slices.ContainsFunc(b.moves(x), isIt) {
		return true
	}
	if x.head != y.head {
		return false
	}
	for i, arg := range x.args {
		if !b.isParallel(arg, y.args[i]) {
			return false
		}
	}
	return true
}

// A verdict tells which of the criteria for confluence a book meets.
type verdict struct{ orthogonal, weakly, closed bool }

func (b book) verdict(crossings []crossing) verdict {
	_, are := peaksOf(crossings)
	if !are || !b.all(ruling.isLeftLinear) {
		return verdict{}
	}
	isSplit := func(c crossing) bool { return !c.left.isSame(c.right) }
	isOpen := func(c crossing) bool { return !b.isParallel(c.left, c.right) }
	return verdict{len(crossings) == 0, !slices.ContainsFunc(crossings, isSplit), !slices.ContainsFunc(crossings, isOpen)}
}

// A parting is a peak with two different normal forms.
type parting struct {
	peak        impl.Peak
	left, right []int64
}

// parting returns the first one of a book, and whether there is one.
func (b book) parting(crossings []crossing, steps int64) (parting, bool) {
	peaks, _ := peaksOf(crossings)
	for i, p := range peaks {
		rights := b.spread(crossings[i].right, steps).normals(b)
		for _, left := range b.spread(crossings[i].left, steps).normals(b) {
			isOther := func(right []int64) bool { return !slices.Equal(left, right) }
			if at := slices.IndexFunc(rights, isOther); at >= 0 {
				return parting{p, left, rights[at]}, true
			}
		}
	}
	return parting{}, false
}

// shortRulings are all rules of the example's signature with small sides, each
// with one choice of variables.
func shortRulings() []ruling {
	var found []ruling
	trees := smallTrees([]int64{-1, -2}, 3)
	for _, l := range trees {
		for _, r := range trees {
			if x := (ruling{l, r}); x.isRule() && x.isSame(x.renamed()) {
				found = append(found, x)
			}
		}
	}
	return found
}

// A closing is a book with what is true of it: which criteria it meets, and by how
// many steps all of its peaks are joined, or -1 if they are not.
type closing struct {
	name string
	b    book
	want verdict
	all  int64
}

func (x closing) system() impl.System { return x.b.system() }

// closings are books that meet each of the criteria or just miss it.
func closings() []closing {
	x, y, c, d, e, f := variable(0), variable(1), tree{head: 2}, tree{head: 3}, tree{head: 4}, tree{head: 5}
	of := func(list ...ruling) book { return book{five(), list} }
	none, closed, weakly, orthogonal := verdict{}, verdict{closed: true}, verdict{weakly: true, closed: true}, verdict{true, true, true}
	return []closing{
		{"no rules", of(), orthogonal, 0},
		{"sums", bookOf(plusZero(), plusNext()), orthogonal, 0},
		{"no peak, and no end", of(swap()), orthogonal, 0},
		{"a variable twice on the right", of(double()), orthogonal, 0},
		{"no peak, but a variable twice on the left", of(merge()), none, 0},
		{"no peak, but not confluent", twins(), none, 0},
		{"assoc", bookOf(assoc()), none, 2},
		{"undo", bookOf(undo()), weakly, 0},
		{"either side", of(ruling{onTwo(d, x), d}, ruling{onTwo(x, d), d}), weakly, 0},
		{"trivial peaks, but a variable twice on the left", of(undo(), merge()), none, 0},
		{"the same rule twice", of(grow(), grow()), weakly, 0},
		{"Left becomes Right on top", of(ruling{onOne(c), d}, ruling{c, e}, ruling{onOne(e), d}), closed, 1},
		{"Left becomes Right below the top", of(ruling{onOne(c), onOne(d)}, ruling{c, e}, ruling{e, d}), closed, 1},
		{"Left becomes Right at two places", of(ruling{onOne(c), onOne(onTwo(d, d))}, ruling{c, onTwo(e, e)}, ruling{e, d}), closed, 2},
		{"Left becomes Right by the last rule", of(ruling{onOne(c), d}, ruling{c, e}, ruling{onTwo(x, y), x}, ruling{onOne(e), d}), closed, 1},
		{"Left becomes Right, but a variable is twice on the left", of(ruling{onOne(c), d}, ruling{c, e}, ruling{onOne(e), d}, merge()), none, 1},
		{"Right becomes Left", of(ruling{onOne(c), d}, ruling{c, e}, ruling{d, onOne(e)}), none, 1},
		{"Left and Right become one term", of(ruling{onOne(c), d}, ruling{c, e}, ruling{onOne(e), f}, ruling{d, f}), none, 1},
		{"Left becomes Right by one step after the other", of(ruling{onOne(c), d}, ruling{c, e}, ruling{onOne(e), f}, ruling{f, d}), none, 2},
		{"only one of two peaks is trivial", of(undo(), ruling{onOne(c), onOne(onOne(d))}), none, -1},
		{"only one of two peaks is closed", of(ruling{onOne(c), d}, ruling{c, e}, ruling{onOne(e), d}, ruling{onTwo(c, x), x}), none, -1},
		{"first and second", bookOf(first(), second()), none, -1},
		{"all peaks are joined, but it is not confluent", backAndForth(), none, 2},
		{"joined by many steps", of(ruling{c, tower(12, d)}, ruling{c, tower(5, d)}, shrink()), none, 7},
	}
}

// twins has no peak, but f0(f2,f2) has two normal forms, because its arguments are
// the same before a step and not after it.
func twins() book {
	x, c := variable(0), tree{head: 2}
	return book{five(), []ruling{{onTwo(x, x), tree{head: 3}}, {onTwo(x, onOne(x)), tree{head: 4}}, {c, onOne(c)}}}
}

// backAndForth has two constants that become each other, and each of them a normal
// form of its own.
func backAndForth() book {
	c, d, e, f := tree{head: 2}, tree{head: 3}, tree{head: 4}, tree{head: 5}
	return book{five(), []ruling{{c, d}, {d, c}, {c, e}, {d, f}}}
}

// crowded is tails with a constant that becomes its term [0], and another term.
func crowded(high int, other ...int64) impl.System {
	sys := tails(high)
	sys.Sig.Arity = append(sys.Sig.Arity, 0)
	sys.Rules = append(sys.Rules, impl.Rule{L: []int64{6}, R: []int64{0}}, impl.Rule{L: []int64{6}, R: other})
	return sys
}

// towersOf is a book of one rule for each height: a tower of a symbol of its own
// becomes what it stands on, so that its peaks are one fewer, and trivial.
func towersOf(heights ...int) book {
	b := book{sig: impl.Sig{Arity: []int64{0}}}
	for i, high := range heights {
		l := variable(0)
		for range high {
			l = tree{head: int64(i) + 1, args: []tree{l}}
		}
		b.sig.Arity = append(b.sig.Arity, 1)
		b.list = append(b.list, ruling{l, variable(0)})
	}
	return b
}
