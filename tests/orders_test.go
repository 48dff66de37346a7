package tests

import (
	"slices"
	"strconv"

	"loop.example/g00895/impl"
)

// What the tests expect of a path order is computed from trees and remembered for
// each two of them, as the document tells: one condition after the other.

// A node is a tree. In one contest, the same trees are the same node.
type node struct {
	head int64
	args []*node
	id   int
}

// A contest is a path order of a precedence, with bags or else lexicographic. It knows
// nodes by their heads and arguments, and the condition for each two that it met.
type contest struct {
	rank  []int64
	bags  bool
	nodes map[string]*node
	known map[[2]*node]int64
}

func contestOf(rank []int64, bags bool) *contest {
	return &contest{rank, bags, map[string]*node{}, map[[2]*node]int64{}}
}

func (c *contest) node(x tree) *node {
	n, key := &node{head: x.head}, strconv.FormatInt(x.head, 10)
	for _, arg := range x.args {
		a := c.node(arg)
		n.args = append(n.args, a)
		key += " " + strconv.Itoa(a.id)
	}
	if known := c.nodes[key]; known != nil {
		return known
	}
	n.id = len(c.nodes)
	c.nodes[key] = n
	return n
}

// why tells the first condition by which y is greater than x, or 0.
func (c *contest) why(x, y tree) int64 { return c.first(c.node(x), c.node(y)) }

func (c *contest) less(x, y tree) bool { return c.why(x, y) > 0 }

func (c *contest) first(x, y *node) int64 {
	pair := [2]*node{x, y}
	if _, is := c.known[pair]; !is {
		c.known[pair] = int64(slices.Index(c.conditions(x, y), true) + 1)
	}
	return c.known[pair]
}

// isLess reports whether y is greater than x.
func (c *contest) isLess(x, y *node) bool { return c.first(x, y) > 0 }

// conditions tells which of the three conditions for y being greater than x hold.
func (c *contest) conditions(x, y *node) []bool {
	isReached := func(arg *node) bool { return arg == x || c.isLess(x, arg) }
	first := slices.ContainsFunc(y.args, isReached)
	if x.head < 0 || y.head < 0 {
		return []bool{first, false, false}
	}
	second := c.rank[x.head] < c.rank[y.head] && c.allLess(x.args, y)
	return []bool{first, second, x.head == y.head && c.third(x, y)}
}

func (c *contest) third(x, y *node) bool {
	if c.bags {
		return c.lessBag(x.args, y.args)
	}
	return c.allLess(x.args, y) && c.lessRow(x.args, y.args)
}

// allLess reports whether y is greater than all of xs.
func (c *contest) allLess(xs []*node, y *node) bool {
	isNot := func(x *node) bool { return !c.isLess(x, y) }
	return !slices.ContainsFunc(xs, isNot)
}

// lessRow reports whether the rows differ and the first other one of ys is greater.
func (c *contest) lessRow(xs, ys []*node) bool {
	for i, x := range xs {
		if x != ys[i] {
			return c.isLess(x, ys[i])
		}
	}
	return false
}

// lessBag reports whether ys has more of some node than xs, and whether one of those
// is greater than each node of which xs has more.
func (c *contest) lessBag(xs, ys []*node) bool {
	over := map[*node]int{}
	for i := range xs {
		over[ys[i]]++
		over[xs[i]]--
	}
	isOver := func(y *node) bool { return over[y] > 0 }
	isOpen := func(x *node) bool {
		isGreater := func(y *node) bool { return isOver(y) && c.isLess(x, y) }
		return over[x] < 0 && !slices.ContainsFunc(ys, isGreater)
	}
	return slices.ContainsFunc(ys, isOver) && !slices.ContainsFunc(xs, isOpen)
}

// compared is what LpoCompare tells of x and y.
func (c *contest) compared(x, y tree) int64 {
	switch {
	case x.isSame(y):
		return 0
	case c.less(y, x):
		return 1
	case c.less(x, y):
		return -1
	}
	return 2
}

// orients reports whether the left side of every ruling is the greater one.
func (c *contest) orients(b book) bool {
	return b.all(func(x ruling) bool { return c.less(x.r, x.l) })
}

// greatest tells the first of the trees that is not less than another one, or -1.
func (c *contest) greatest(xs []tree) int64 {
	return int64(slices.IndexFunc(xs, func(x tree) bool {
		isGreater := func(y tree) bool { return c.less(x, y) }
		return !slices.ContainsFunc(xs, isGreater)
	}))
}

// ranksOf lists every precedence of so many symbols.
func ranksOf(size int64) [][]int64 {
	if size == 0 {
		return [][]int64{nil}
	}
	var found [][]int64
	for _, rank := range ranksOf(size - 1) {
		for at := range size {
			found = append(found, slices.Insert(slices.Clone(rank), int(at), size-1))
		}
	}
	return found
}

// rank returns a precedence of a signature.
func (m maker) rank(sig impl.Sig) []int64 {
	rank := everyPlace(int64(len(sig.Arity)))
	m.Shuffle(len(rank), func(i, j int) { rank[i], rank[j] = rank[j], rank[i] })
	return rank
}

// falling is the precedence of the document's examples.
func falling() []int64 { return []int64{2, 1, 0} }

// A badRank is no precedence for its signature, which may not be valid either.
type badRank struct {
	name string
	sig  impl.Sig
	rank []int64
}

func badRanks() []badRank {
	found := []badRank{
		{"nil", abc(), nil},
		{"empty", abc(), []int64{}},
		{"a number twice", abc(), []int64{0, 0, 1}},
		{"the greatest number twice", abc(), []int64{2, 0, 2}},
		{"a number twice instead of the greatest one", abc(), []int64{1, 1, 0}},
		{"the same sum", abc(), []int64{1, 1, 1}},
		{"all zero", abc(), []int64{0, 0, 0}},
		{"too short", abc(), []int64{0, 1}},
		{"too short, of greater numbers", abc(), []int64{1, 2}},
		{"too long", abc(), []int64{0, 1, 2, 3}},
		{"too long, with a number twice", abc(), []int64{2, 1, 0, 0}},
		{"from 1", abc(), []int64{1, 2, 3}},
		{"negative", abc(), []int64{-1, 0, 1}},
		{"one number too great", abc(), []int64{0, 1, 3}},
		{"permuted in 32 bits", abc(), []int64{1 << 32, 1, 2}},
		{"eight of seven", five(), everyPlace(8)},
		{"seven of eight", wide(), everyPlace(7)},
		{"a number twice of eight", wide(), []int64{0, 1, 2, 3, 4, 5, 6, 6}},
		{"twice of two", impl.Sig{Arity: []int64{1, 0}}, []int64{0, 0}},
		{"one of one", impl.Sig{Arity: []int64{0}}, []int64{1}},
	}
	for _, sig := range badSigs() {
		found = append(found, badRank{"a bad signature", sig, everyPlace(int64(len(sig.Arity)))})
		found = append(found, badRank{"a bad signature and no rank", sig, nil})
	}
	return found
}

// orderedSigs are signatures with several symbols of one arity, or with none of
// some arities.
func orderedSigs() []impl.Sig {
	return []impl.Sig{
		{Arity: []int64{0}},
		{Arity: []int64{3, 0}},
		{Arity: []int64{0, 3, 1}},
		{Arity: []int64{1, 1, 0}},
		{Arity: []int64{2, 2, 0}},
		{Arity: []int64{0, 2, 0}},
		{Arity: []int64{2, 3, 0, 0}},
	}
}

// An arena is a signature with trees and a precedence for it.
type arena struct {
	sig   impl.Sig
	trees []tree
	rank  []int64
}

// arenas have all trees of few numbers over the example's signature, and those of
// fewer numbers over other ones, with every precedence.
func arenas(vars []int64, most int64) []arena {
	var found []arena
	for i, sig := range append([]impl.Sig{abc()}, orderedSigs()...) {
		var trees []tree
		for size := int64(1); size <= most && (i == 0 || len(trees) < 40); size++ {
			trees = append(trees, treesOf(sig, vars, size)...)
		}
		for _, rank := range ranksOf(int64(len(sig.Arity))) {
			found = append(found, arena{sig, trees, rank})
		}
	}
	return found
}
