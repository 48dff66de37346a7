package tests

import (
	"math/rand/v2"
	"slices"
	"strconv"

	"loop.example/g00895/impl"
)

// A class is a set of trees that every unifier makes equal.
type class struct{ members []tree }

// A merging finds the class of a tree by its key. What the tests expect of
// a unifier is read from classes that are merged until the arguments of equal
// ones are equal; nothing is replaced before.
type merging map[string]*class

// key is a text that no other tree has.
func (x tree) key() string {
	key := strconv.FormatInt(x.head, 10) + " "
	for _, arg := range x.args {
		key += arg.key()
	}
	return key
}

func (m merging) of(x tree) *class {
	if m[x.key()] == nil {
		m[x.key()] = &class{[]tree{x}}
	}
	return m[x.key()]
}

// merge makes x and y equal and reports whether that is possible so far.
func (m merging) merge(x, y tree) bool {
	from, to := m.of(x), m.of(y)
	if from == to {
		return true
	}
	first, second := from.built(), to.built()
	for _, member := range from.members {
		m[member.key()] = to
	}
	to.members = append(to.members, from.members...)
	if first == nil || second == nil {
		return true
	}
	if first.head != second.head {
		return false
	}
	for i := range first.args {
		if !m.merge(first.args[i], second.args[i]) {
			return false
		}
	}
	return true
}

// built returns a member that is no variable, if there is one.
func (c *class) built() *tree {
	isBuilt := func(x tree) bool { return x.head >= 0 }
	if i := slices.IndexFunc(c.members, isBuilt); i >= 0 {
		return &c.members[i]
	}
	return nil
}

// smallest returns the smallest variable of a class of variables.
func (c *class) smallest() tree {
	found := c.members[0]
	for _, x := range c.members {
		if x.head > found.head {
			found = x
		}
	}
	return found
}

// read returns the tree that x becomes, or false if x is inside itself or would
// be too long. The classes around x are those that x is a part of.
func (m merging) read(x tree, around []*class) (tree, bool) {
	c := m.of(x)
	if slices.Contains(around, c) {
		return tree{}, false
	}
	built := c.built()
	if built == nil {
		return c.smallest(), true
	}
	result := tree{head: built.head}
	for _, arg := range built.args {
		y, is := m.read(arg, append(slices.Clone(around), c))
		if !is {
			return tree{}, false
		}
		result.args = append(result.args, y)
	}
	return result, result.size() <= impl.MaxTerm
}

// unifier returns the most general unifier of x and y, or false if there is none
// or the tree that both become would be too long.
func (x tree) unifier(y tree) (filling, bool) {
	m, found := merging{}, filling{}
	if !m.merge(x, y) {
		return nil, false
	}
	if _, is := m.read(x, nil); !is {
		return nil, false
	}
	for _, i := range append(x.vars(), y.vars()...) {
		found[i], _ = m.read(variable(i), nil)
	}
	return found, true
}

// behind returns the first variable number behind those of x.
func (x tree) behind() int64 {
	behind := int64(0)
	for _, i := range x.vars() {
		behind = max(behind, i+1)
	}
	return behind
}

// apartFrom returns y with its variables moved behind those of x, or false if a
// variable would not exist.
func (y tree) apartFrom(x tree) (tree, bool) {
	shift := filling{}
	for _, i := range y.vars() {
		shift[i] = variable(i + x.behind())
	}
	moved := y.filled(shift)
	return moved, moved.behind() <= impl.MaxVars
}

// generalised returns the least general tree of which x and y are instances.
// The pairs tell which variables stand for which two trees.
func (x tree) generalised(y tree, pairs map[string]tree) tree {
	if x.head == y.head && x.head >= 0 {
		result := tree{head: x.head}
		for i := range x.args {
			result.args = append(result.args, x.args[i].generalised(y.args[i], pairs))
		}
		return result
	}
	key := x.key() + y.key()
	if _, given := pairs[key]; !given {
		pairs[key] = variable(int64(len(pairs)))
	}
	return pairs[key]
}

func onTwo(a, b tree) tree { return tree{head: 0, args: []tree{a, b}} }

func onOne(a tree) tree { return tree{head: 1, args: []tree{a}} }

// tower returns x with so many f1 around it.
func tower(high int, x tree) tree {
	for range high {
		x = onOne(x)
	}
	return x
}

// row is f0(a,f0(b,..)).
func row(trees ...tree) tree {
	if len(trees) == 1 {
		return trees[0]
	}
	return onTwo(trees[0], row(trees[1:]...))
}

// rowOf is the row of so many trees.
func rowOf(size int, at func(i int64) tree) tree { return row(several(size, at)...) }

// stair is f1(a,b,f1(c,d,..)) of an odd number of trees, for a signature in
// which f1 has three arguments.
func stair(trees ...tree) tree {
	if len(trees) == 1 {
		return trees[0]
	}
	return tree{head: 1, args: []tree{trees[0], trees[1], stair(trees[2:]...)}}
}

func several(size int, at func(i int64) tree) []tree {
	var trees []tree
	for i := range int64(size) {
		trees = append(trees, at(i))
	}
	return trees
}

// A maker makes trees from a fixed sequence of numbers that look random.
type maker struct{ *rand.Rand }

func makerOf(start uint64) maker { return maker{rand.New(rand.NewPCG(start, 5))} }

// tree returns a tree of the given size, over three of the variables. The
// signature has symbols without arguments and with one.
func (m maker) tree(sig impl.Sig, size int64) tree {
	if size == 1 && m.IntN(2) == 0 {
		return variable(m.Int64N(3) * 10)
	}
	head := m.Int64N(int64(len(sig.Arity)))
	for args := sig.Arity[head]; args >= size || args == 0 && size > 1; args = sig.Arity[head] {
		head = m.Int64N(int64(len(sig.Arity)))
	}
	x, left := tree{head: head}, size-1
	for args := sig.Arity[head]; args > 0; args-- {
		part := left
		if args > 1 {
			part = 1 + m.Int64N(left-args+1)
		}
		x.args = append(x.args, m.tree(sig, part))
		left -= part
	}
	return x
}

// blurred returns x with some of its subterms replaced by variables, for which
// f gives the subterms back: one of so many subterms, or fewer if all variables
// are in use.
func (m maker) blurred(x tree, f filling, many int) tree {
	if i := m.Int64N(impl.MaxVars); m.IntN(many) == 0 {
		if _, given := f[i]; !given {
			f[i] = x
		}
		if f[i].isSame(x) {
			return variable(i)
		}
	}
	result := tree{head: x.head}
	for _, arg := range x.args {
		result.args = append(result.args, m.blurred(arg, f, many))
	}
	return result
}

// fixed gives the variables back of which trees are made.
func fixed() filling { return filling{0: variable(0), 10: variable(10), 20: variable(20)} }

// A blur is two terms with much in common.
type blur struct {
	sig  impl.Sig
	x, y tree
}

// blur returns two terms. If they are to be alike, the filling that it returns
// is a unifier of them.
func (m maker) blur(alike bool) (blur, filling) {
	sig := abc()
	if m.IntN(3) == 0 {
		sig = impl.Sig{Arity: []int64{0, 3, 1}}
	}
	for {
		seed, many, f := m.tree(sig, 10+m.Int64N(71)), 3+m.IntN(9), fixed()
		x := m.blurred(seed, f, many)
		if !alike {
			f = fixed()
		}
		y := m.blurred(seed, f, many)
		if x.size() > 3 && y.size() > 3 && x.size() <= impl.MaxTerm && y.size() <= impl.MaxTerm {
			return blur{sig, x, y}, f
		}
	}
}
