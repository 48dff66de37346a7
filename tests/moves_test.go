package tests

import (
	"slices"

	"loop.example/g00895/impl"
)

// A move is one rewriting of a tree: where, by which rule, and what comes of
// it, however large. What the tests expect of steps is computed from moves, and
// where they are from the paths of trees.
type move struct {
	at   int64
	path []int64
	rule int64
	to   tree
}

func (m move) step() impl.Step { return impl.Step{At: m.at, Rule: m.rule, To: m.to.notation()} }

func (m move) isLong() bool { return m.to.size() > impl.MaxTerm }

// bind extends f so that p becomes x, and reports whether it can.
func (p tree) bind(x tree, f filling) bool {
	if p.head < 0 {
		i := -1 - p.head
		if _, given := f[i]; !given {
			f[i] = x
		}
		return f[i].isSame(x)
	}
	if p.head != x.head {
		return false
	}
	for k, arg := range p.args {
		if !arg.bind(x.args[k], f) {
			return false
		}
	}
	return true
}

// moves lists the moves of x, sorted by position and then by rule.
func (b book) moves(x tree) []move {
	var found []move
	for _, s := range x.spots() {
		for i, r := range b.list {
			f := filling{}
			if r.l.bind(s.sub, f) {
				found = append(found, move{s.at, s.path, int64(i), x.put(s.path, r.r.filled(f))})
			}
		}
	}
	return found
}

// A trail is a tree and moves, each of them from the tree before it.
type trail struct {
	from  tree
	moves []move
}

func (r trail) last() tree {
	if len(r.moves) == 0 {
		return r.from
	}
	return r.moves[len(r.moves)-1].to
}

// cut returns the moves from one index up to another one.
func (r trail) cut(from, to int) trail {
	return trail{trail{r.from, r.moves[:from]}.last(), r.moves[from:to]}
}

func (r trail) walk() impl.Walk {
	w := impl.Walk{From: r.from.notation()}
	for _, m := range r.moves {
		w.Steps = append(w.Steps, m.step())
	}
	return w
}

// isLong reports whether some tree on the way is too large for a term.
func (r trail) isLong() bool {
	return r.from.size() > impl.MaxTerm || slices.ContainsFunc(r.moves, move.isLong)
}

// carried returns the same moves in other trees: change tells what becomes of a
// tree, and lead what becomes of a path in it.
func (r trail) carried(change func(x tree) tree, lead func(path []int64) []int64) trail {
	result := trail{from: change(r.from)}
	for _, m := range r.moves {
		path := lead(m.path)
		at := spotAt(result.last().spots(), path)
		result.moves = append(result.moves, move{at, path, m.rule, change(m.to)})
	}
	return result
}

// inside returns the same moves at the end of a path in x.
func (r trail) inside(x tree, path []int64) trail {
	put := func(y tree) tree { return x.put(path, y) }
	lead := func(p []int64) []int64 { return slices.Concat(path, p) }
	return r.carried(put, lead)
}

// under returns the same moves with the variables of all trees replaced.
func (r trail) under(f filling) trail {
	fill := func(y tree) tree { return y.filled(f) }
	lead := func(p []int64) []int64 { return p }
	return r.carried(fill, lead)
}

func equalSteps(a, b []impl.Step) bool {
	isSame := func(x, y impl.Step) bool { return x.At == y.At && x.Rule == y.Rule && slices.Equal(x.To, y.To) }
	return slices.EqualFunc(a, b, isSame)
}

func equalWalks(a, b impl.Walk) bool {
	return slices.Equal(a.From, b.From) && equalSteps(a.Steps, b.Steps)
}

func isZeroWalk(w impl.Walk) bool { return len(w.From) == 0 && len(w.Steps) == 0 }

func cloneWalk(w impl.Walk) impl.Walk {
	clone := impl.Walk{From: slices.Clone(w.From)}
	for _, x := range w.Steps {
		clone.Steps = append(clone.Steps, impl.Step{At: x.At, Rule: x.Rule, To: slices.Clone(x.To)})
	}
	return clone
}

// Some rulings of the example's signature, by names.
func plusZero() ruling { return ruling{onTwo(tree{head: 2}, variable(0)), variable(0)} }
func plusNext() ruling {
	return ruling{onTwo(onOne(variable(0)), variable(1)), onOne(onTwo(variable(0), variable(1)))}
}
func swap() ruling {
	return ruling{onTwo(variable(0), variable(1)), onTwo(variable(1), variable(0))}
}
func grow() ruling   { return ruling{onOne(variable(0)), tower(2, variable(0))} }
func shrink() ruling { return ruling{onOne(variable(0)), variable(0)} }
func double() ruling { return ruling{onOne(variable(0)), onTwo(variable(0), variable(0))} }
func merge() ruling  { return ruling{onTwo(variable(0), variable(0)), variable(0)} }
func stay() ruling   { return ruling{tree{head: 2}, tree{head: 2}} }

func bookOf(list ...ruling) book { return book{abc(), list} }

// longBooks have many moves from most trees, some of them without an end.
func longBooks() []book {
	return []book{
		bookOf(plusZero(), plusNext()),
		bookOf(swap()),
		bookOf(grow(), shrink()),
		bookOf(double(), merge(), plusNext()),
		bookOf(swap(), double(), shrink(), grow(), merge()),
		bookOf(someRulings()...),
	}
}

// anyBook returns one of the long books or a system of any rules.
func (m maker) anyBook() book {
	if m.IntN(2) == 0 {
		return longBooks()[m.IntN(len(longBooks()))]
	}
	return m.book()
}

// bed returns a tree of about the given size with instances of left sides in
// it. It is never too large for a term.
func (m maker) bed(b book, size int64) tree {
	x := m.tree(b.sig, size)
	for range min(4, len(b.list)) {
		f := filling{}
		l := b.list[m.IntN(len(b.list))].l
		for _, i := range l.varSet() {
			f[i] = m.tree(b.sig, 1+m.Int64N(6))
		}
		spots := x.spots()
		if y := x.put(spots[m.IntN(len(spots))].path, l.filled(f)); y.size() <= impl.MaxTerm {
			x = y
		}
	}
	return x
}

// trail returns up to so many moves from x, none of them to a tree that is too
// large for a term.
func (m maker) trail(b book, x tree, most int) trail {
	r := trail{from: x}
	for range most {
		fit := slices.DeleteFunc(b.moves(r.last()), move.isLong)
		if len(fit) == 0 {
			break
		}
		r.moves = append(r.moves, fit[m.IntN(len(fit))])
	}
	return r
}

// allows reports whether r is a rewrite sequence.
func (b book) allows(r trail) bool {
	if r.isLong() || len(r.moves) > impl.MaxWalk {
		return false
	}
	for i, m := range r.moves {
		isIt := func(x move) bool { return x.at == m.at && x.rule == m.rule && x.to.isSame(m.to) }
		if !slices.ContainsFunc(b.moves(r.cut(0, i).last()), isIt) {
			return false
		}
	}
	return true
}

// with returns r with one of its moves replaced by others.
func (r trail) with(i int, moves ...move) trail {
	return trail{r.from, slices.Concat(r.moves[:i], moves, r.moves[i+1:])}
}

// variations returns trails that differ a little from r, most of which are no
// rewrite sequences.
func (b book) variations(r trail) []trail {
	found := []trail{{from: variable(0), moves: r.moves}, {from: r.last(), moves: r.moves}}
	for i, m := range r.moves {
		before := r.cut(0, i).last()
		for at := int64(-1); at <= before.size(); at++ {
			found = append(found, r.with(i, move{at: at, rule: m.rule, to: m.to}))
		}
		for rule := int64(-1); rule <= int64(len(b.list)); rule++ {
			found = append(found, r.with(i, move{at: m.at, rule: rule, to: m.to}))
		}
		others := []tree{before, r.from, r.last(), onOne(m.to), {head: 2}, variable(0)}
		for _, other := range b.moves(before) {
			others = append(others, other.to)
			found = append(found, r.with(i, other))
		}
		for _, to := range others {
			found = append(found, r.with(i, move{at: m.at, rule: m.rule, to: to}))
		}
		found = append(found, r.with(i), r.with(i, m, m), r.cut(0, i+1), r.cut(i, len(r.moves)))
		if i > 0 {
			swapped := r.with(i, r.moves[i-1])
			found = append(found, swapped.with(i-1, m))
		}
	}
	return found
}
