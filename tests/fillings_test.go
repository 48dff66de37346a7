package tests

import (
	"maps"
	"slices"

	"loop.example/g00895/impl"
)

// A filling is a substitution as the trees that replace some of the variables.
// What the tests expect of a substitution is computed from fillings and trees.
type filling map[int64]tree

func variable(i int64) tree { return tree{head: -1 - i} }

// of returns the tree that replaces variable i.
func (f filling) of(i int64) tree {
	if x, given := f[i]; given {
		return x
	}
	return variable(i)
}

// isMove reports whether variable i is replaced by another tree.
func (f filling) isMove(i int64) bool { return f.of(i).head != variable(i).head }

// subst returns a Subst with at least the given number of elements. A variable
// that f replaces by itself stands in it as an element, so it may not be plain.
func (f filling) subst(size int64) impl.Subst {
	for i := range f {
		size = max(size, i+1)
	}
	s := impl.Subst{Terms: make([][]int64, size)}
	for i, x := range f {
		s.Terms[i] = x.notation()
	}
	return s
}

// plain returns the one plain Subst of f.
func (f filling) plain() impl.Subst {
	moves := filling{}
	for i, x := range f {
		if f.isMove(i) {
			moves[i] = x
		}
	}
	return moves.subst(0)
}

// filled returns x with its variables replaced.
func (x tree) filled(f filling) tree {
	if x.head < 0 {
		return f.of(-1 - x.head)
	}
	result := tree{head: x.head}
	for _, arg := range x.args {
		result.args = append(result.args, arg.filled(f))
	}
	return result
}

// then returns the filling that does what f does and then what g does.
func (f filling) then(g filling) filling {
	both := filling{}
	for i := range int64(impl.MaxVars) {
		both[i] = f.of(i).filled(g)
	}
	return both
}

// longest returns the size of the largest tree that replaces a variable.
func (f filling) longest() int64 {
	longest := int64(0)
	for x := range maps.Values(f) {
		longest = max(longest, x.size())
	}
	return longest
}

// vars lists the variables of x in the order of their occurrences, with
// repetitions.
func (x tree) vars() []int64 {
	if x.head < 0 {
		return []int64{-1 - x.head}
	}
	var found []int64
	for _, arg := range x.args {
		found = append(found, arg.vars()...)
	}
	return found
}

// varSet lists the variables of x in ascending order.
func (x tree) varSet() []int64 {
	found := map[int64]bool{}
	for _, i := range x.vars() {
		found[i] = true
	}
	return slices.Sorted(maps.Keys(found))
}

// renamed returns x with variable i replaced by its place in the order of the
// first occurrences.
func (x tree) renamed() tree {
	f := filling{}
	for _, i := range x.vars() {
		if _, given := f[i]; !given {
			f[i] = variable(int64(len(f)))
		}
	}
	return x.filled(f)
}

// isVariant reports whether the two trees differ only in a one-to-one renaming
// of their variables.
func (x tree) isVariant(y tree) bool {
	there, back := filling{}, filling{}
	from, to := x.vars(), y.vars()
	if len(from) != len(to) {
		return false
	}
	for k := range from {
		there[from[k]], back[to[k]] = variable(to[k]), variable(from[k])
	}
	return slices.Equal(x.filled(there).notation(), y.notation()) && slices.Equal(y.filled(back).notation(), x.notation())
}

// fillingsOf returns every filling that gives each of the variables one of the
// trees or leaves it out.
func fillingsOf(vars []int64, images []tree) []filling {
	found := []filling{{}}
	for _, i := range vars {
		for _, f := range slices.Clone(found) {
			for _, x := range images {
				g := maps.Clone(f)
				g[i] = x
				found = append(found, g)
			}
		}
	}
	return found
}

// smallTrees returns every tree of at most so many elements over the signature
// of the examples and the given variables.
func smallTrees(vars []int64, most int64) []tree {
	var found []tree
	for size := int64(1); size <= most; size++ {
		found = append(found, treesOf(abc(), vars, size)...)
	}
	return found
}
