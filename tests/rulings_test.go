package tests

import (
	"slices"

	"loop.example/g00895/impl"
)

// A ruling is two trees that may be a rule.
type ruling struct{ l, r tree }

func (x ruling) rule() impl.Rule { return impl.Rule{L: x.l.notation(), R: x.r.notation()} }

// isRule reports whether l is no variable and has every variable of r.
func (x ruling) isRule() bool {
	for _, i := range x.r.vars() {
		if !slices.Contains(x.l.vars(), i) {
			return false
		}
	}
	return x.l.head >= 0
}

func (x ruling) isSame(y ruling) bool { return x.l.isSame(y.l) && x.r.isSame(y.r) }

func (x ruling) isLeftLinear() bool { return len(x.l.vars()) == len(x.l.varSet()) }

func (x ruling) isCollapsing() bool { return x.r.head < 0 }

func (x ruling) isDuplicating() bool {
	isMore := func(i int64) bool { return x.r.count(-1-i) > x.l.count(-1-i) }
	return slices.ContainsFunc(x.r.varSet(), isMore)
}

// renamed returns the two trees with the variables of l numbered anew.
func (x ruling) renamed() ruling {
	f := filling{}
	for _, i := range x.l.vars() {
		if _, given := f[i]; !given {
			f[i] = variable(int64(len(f)))
		}
	}
	return ruling{x.l.filled(f), x.r.filled(f)}
}

// A book is a signature and rulings that may be a system. What the tests expect
// of a system is computed from its book.
type book struct {
	sig  impl.Sig
	list []ruling
}

func (b book) system() impl.System {
	sys := impl.System{Sig: b.sig}
	for _, x := range b.list {
		sys.Rules = append(sys.Rules, x.rule())
	}
	return sys
}

// all reports whether every ruling is as told.
func (b book) all(is func(x ruling) bool) bool {
	for _, x := range b.list {
		if !is(x) {
			return false
		}
	}
	return true
}

// heads tells which symbols are heads of left sides.
func (b book) heads() map[int64]bool {
	found := map[int64]bool{}
	for _, x := range b.list {
		found[x.l.head] = true
	}
	return found
}

// symbols lists the symbols that are heads of left sides, or else the others.
func (b book) symbols(defined bool) []int64 {
	var found []int64
	heads := b.heads()
	for n := range int64(len(b.sig.Arity)) {
		if heads[n] == defined {
			found = append(found, n)
		}
	}
	return found
}

// isFlat reports whether no head of a left side occurs below one.
func (b book) isFlat() bool {
	heads := b.heads()
	return b.all(func(x ruling) bool {
		isNested := func(s spot) bool { return s.at > 0 && heads[s.sub.head] }
		return !slices.ContainsFunc(x.l.spots(), isNested)
	})
}

// isSame reports whether the two books say the same in the same order.
func (b book) isSame(c book) bool {
	return slices.Equal(b.sig.Arity, c.sig.Arity) && slices.EqualFunc(b.list, c.list, ruling.isSame)
}

// someRulings are rules of which some are left-linear, collapsing, duplicating
// or have a symbol below the head, with heads of every arity. Two of them
// differ only in a variable, and two only in one side.
func someRulings() []ruling {
	x, y, z, c := variable(0), variable(1), variable(23), tree{head: 2}
	return []ruling{
		{onTwo(c, x), x},
		{onTwo(onOne(x), y), onOne(onTwo(x, y))},
		{onTwo(onOne(x), z), onOne(onTwo(x, z))},
		{onTwo(x, x), x},
		{onTwo(onTwo(x, y), z), onTwo(x, onTwo(y, z))},
		{onOne(x), onTwo(x, x)},
		{onOne(onTwo(x, x)), onTwo(x, onTwo(x, x))},
		{onOne(onOne(x)), x},
		{onOne(c), c},
		{c, c},
		{c, onOne(c)},
	}
}

// booksOf returns a book for every list of at most so many of the rulings.
func booksOf(sig impl.Sig, rulings []ruling, most int) []book {
	var found []book
	for _, list := range lists(len(rulings), most) {
		b := book{sig: sig}
		for _, i := range list {
			b.list = append(b.list, rulings[i])
		}
		found = append(found, b)
	}
	return found
}

// ruling returns a rule, mostly with long sides.
func (m maker) ruling(sig impl.Sig) ruling { return m.rulingOf(sig, m.tree(sig, 2+m.Int64N(20))) }

// rulingOf returns a rule with this left side.
func (m maker) rulingOf(sig impl.Sig, l tree) ruling {
	x := ruling{l: l, r: m.tree(sig, 1+m.Int64N(20))}
	if len(x.l.vars()) == 0 {
		return ruling{x.l, x.l}
	}
	f := filling{}
	for _, i := range x.r.vars() {
		f[i] = variable(x.l.vars()[m.IntN(len(x.l.vars()))])
	}
	x.r = x.r.filled(f)
	return x
}

// book returns a system of up to MaxRules rules.
func (m maker) book() book {
	sigs := []impl.Sig{abc(), wide(), {Arity: []int64{0, 3, 1}}, {Arity: []int64{1, 0}}, {Arity: []int64{3, 2, 1, 0, 0, 1, 2, 3}}}
	b := book{sig: sigs[m.IntN(len(sigs))]}
	for range m.IntN(impl.MaxRules + 1) {
		b.list = append(b.list, m.ruling(b.sig))
	}
	return b
}
