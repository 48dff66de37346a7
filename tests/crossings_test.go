package tests

import (
	"slices"

	"loop.example/g00895/impl"
)

// A crossing is two rulings of a book and a spot of the left side of the one at
// which the other one overlaps it. What the tests expect of overlaps and peaks is
// computed from crossings: the second ruling gets variables of its own, and the
// spot and its left side are merged into classes of trees.
type crossing struct {
	over, under      int64
	place            spot
	top, left, right tree
	fits             bool // whether the three trees are terms, so that there is a peak
}

// foreign returns x with variables that no other ruling has. They are beyond
// those that a term may have.
func (x ruling) foreign() ruling {
	f := filling{}
	for i := range int64(impl.MaxVars) {
		f[i] = variable(impl.MaxVars + i)
	}
	return ruling{x.l.filled(f), x.r.filled(f)}
}

// isFinite reports whether no class is a part of itself. Every subterm must have
// a class. A class is found to end if those of all its arguments are, until no
// other one is found.
func (m merging) isFinite() bool {
	parts, ends := map[*class][]*class{}, map[*class]bool{}
	for _, c := range m {
		parts[c] = nil
		if built := c.built(); built != nil {
			for _, arg := range built.args {
				parts[c] = append(parts[c], m.of(arg))
			}
		}
	}
	isOpen := func(c *class) bool { return !ends[c] }
	for before := -1; before < len(ends); {
		before = len(ends)
		for c := range parts {
			if !slices.ContainsFunc(parts[c], isOpen) {
				ends[c] = true
			}
		}
	}
	return len(ends) == len(parts)
}

// crossing returns the crossing at a place, if there is one.
func (b book) crossing(over int64, place spot, under int64) (crossing, bool) {
	c := crossing{over: over, under: under, place: place}
	if place.sub.head < 0 || over == under && len(place.path) == 0 {
		return c, false
	}
	x, y, m := b.list[over], b.list[under].foreign(), merging{}
	for _, s := range append(x.l.spots(), y.l.spots()...) {
		m.of(s.sub)
	}
	if !m.merge(place.sub, y.l) || !m.isFinite() {
		return c, false
	}
	c.meet(m, x, y.r)
	return c, true
}

// meet sets the trees of the peak, if it has one.
func (c *crossing) meet(m merging, x ruling, r tree) {
	top, isTop := m.read(x.l, nil)
	left, isLeft := m.read(x.l.put(c.place.path, r), nil)
	right, isRight := m.read(x.r, nil)
	if !isTop || !isLeft || !isRight || len(top.varSet()) > impl.MaxVars {
		return
	}
	f := filling{}
	for _, i := range top.vars() {
		if _, given := f[i]; !given {
			f[i] = variable(int64(len(f)))
		}
	}
	c.top, c.left, c.right, c.fits = top.filled(f), left.filled(f), right.filled(f), true
}

// peak returns the peak, or the zero Peak if there is none.
func (c crossing) peak() impl.Peak {
	if !c.fits {
		return impl.Peak{}
	}
	return impl.Peak{Top: c.top.notation(), Left: c.left.notation(), Right: c.right.notation(), At: c.place.at, Under: c.under, Over: c.over}
}

// crossings lists all crossings, sorted by the ruling over, then by the place
// and then by the ruling under.
func (b book) crossings() []crossing {
	var found []crossing
	for over, x := range b.list {
		for _, place := range x.l.spots() {
			for under := range b.list {
				if c, is := b.crossing(int64(over), place, int64(under)); is {
					found = append(found, c)
				}
			}
		}
	}
	return found
}

// peaksOf returns the peaks of all the crossings of a book, or false if there are
// too many of them or one has none.
func peaksOf(crossings []crossing) ([]impl.Peak, bool) {
	var found []impl.Peak
	for _, c := range crossings {
		if !c.fits {
			return nil, false
		}
		found = append(found, c.peak())
	}
	if len(found) > impl.MaxPeaks {
		return nil, false
	}
	return found, true
}

// accepts reports whether the trees are a peak of two moves of those rulings.
func (b book) accepts(c crossing) bool {
	hasRulings := min(c.over, c.under) >= 0 && max(c.over, c.under) < int64(len(b.list))
	if !hasRulings || c.place.sub.head < 0 || c.over == c.under && len(c.place.path) == 0 {
		return false
	}
	leads := func(path []int64, rule int64, to tree) bool {
		return slices.ContainsFunc(b.moves(c.top), func(m move) bool {
			return slices.Equal(m.path, path) && m.rule == rule && m.to.isSame(to) && !m.isLong()
		})
	}
	return leads(nil, c.over, c.right) && leads(c.place.path, c.under, c.left)
}

// under returns the same peak with the variables of its trees replaced.
func (c crossing) filled(f filling) crossing {
	c.top, c.left, c.right = c.top.filled(f), c.left.filled(f), c.right.filled(f)
	c.fits = max(c.top.size(), c.left.size(), c.right.size()) <= impl.MaxTerm
	return c
}

func equalPeaks(a, b impl.Peak) bool {
	return slices.Equal(a.Top, b.Top) && slices.Equal(a.Left, b.Left) && slices.Equal(a.Right, b.Right) && a.At == b.At && a.Under == b.Under && a.Over == b.Over
}

func isZeroPeak(p impl.Peak) bool { return equalPeaks(p, impl.Peak{}) }

func clonePeak(p impl.Peak) impl.Peak {
	p.Top, p.Left, p.Right = slices.Clone(p.Top), slices.Clone(p.Left), slices.Clone(p.Right)
	return p
}

// mirrored returns x with the arguments of every symbol in the other order.
func (x tree) mirrored() tree {
	result := tree{head: x.head}
	for _, arg := range slices.Backward(x.args) {
		result.args = append(result.args, arg.mirrored())
	}
	return result
}

// Some more rulings of the example's signature, by names.
func assoc() ruling {
	return ruling{onTwo(onTwo(variable(0), variable(1)), variable(2)), onTwo(variable(0), onTwo(variable(1), variable(2)))}
}
func undo() ruling { return ruling{tower(2, variable(0)), variable(0)} }
func first() ruling {
	return ruling{onTwo(variable(0), variable(1)), variable(0)}
}
func second() ruling {
	return ruling{onTwo(variable(1), variable(0)), variable(0)}
}

// peakBooks have overlaps of many kinds, and a peak for each of them.
func peakBooks() []book {
	x, y, z, c := variable(0), variable(1), variable(23), tree{head: 2}
	return []book{
		bookOf(assoc()),
		bookOf(undo()),
		bookOf(first(), second()),
		bookOf(assoc(), undo(), first(), second(), swap(), stay()),
		bookOf(plusZero(), plusNext(), assoc(), swap()),
		bookOf(double(), grow(), shrink(), stay(), ruling{onOne(c), c}),
		bookOf(merge(), ruling{onTwo(onOne(z), z), onOne(z)}, ruling{onTwo(onOne(onOne(x)), onOne(y)), onTwo(y, x)}),
		bookOf(ruling{onTwo(x, onOne(x)), x}, undo(), ruling{onOne(onTwo(x, y)), onTwo(onOne(y), onOne(x))}),
		{impl.Sig{Arity: []int64{0, 3, 1}}, []ruling{
			{stair(stair(z, y, x), y, x), stair(x, stair(x, y, x), z)},
			{stair(x, tree{head: 2, args: []tree{x}}, y), y},
			{tree{head: 2, args: []tree{stair(x, tree{head: 0}, y)}}, stair(y, y, x)},
		}},
	}
}

// crossed returns a book of up to so many rulings with long left sides of which
// many overlap: each of them is made of a part of one seed.
func (m maker) crossed(most int) book {
	sigs := []impl.Sig{abc(), {Arity: []int64{0, 3, 1}}, wide()}
	b := book{sig: sigs[m.IntN(len(sigs))]}
	seed, many := m.tree(b.sig, 4+m.Int64N(50)), 3+m.IntN(9)
	spots := seed.spots()
	for range 1 + m.IntN(most) {
		part := spots[m.IntN(1+m.IntN(len(spots)))].sub
		l := m.blurred(part, fixed(), many)
		if l.head < 0 {
			l = part
		}
		if l.head >= 0 {
			b.list = append(b.list, m.rulingOf(b.sig, l))
		}
	}
	return b
}
