package tests

import "loop.example/g00895/impl"

// A tree is a term as its head and its arguments. What the tests expect of a
// term is computed from trees, never by reading the prefix notation, so that a
// mistake in the reading can not hide in the expectation too.
type tree struct {
	head int64
	args []tree
}

// A place is a subterm of a tree and where its notation stands.
type place struct {
	at, end int64
	args    []int64
	sub     tree
}

func (x tree) notation() []int64 {
	nums := []int64{x.head}
	for _, arg := range x.args {
		nums = append(nums, arg.notation()...)
	}
	return nums
}

func (x tree) size() int64 {
	size := int64(1)
	for _, arg := range x.args {
		size += arg.size()
	}
	return size
}

func (x tree) depth() int64 {
	deepest := int64(0)
	for _, arg := range x.args {
		if d := arg.depth(); d > deepest {
			deepest = d
		}
	}
	return deepest + 1
}

func (x tree) count(n int64) int64 {
	count := int64(0)
	if x.head == n {
		count = 1
	}
	for _, arg := range x.args {
		count += arg.count(n)
	}
	return count
}

// places lists the subterms of x, the first one at the index at.
func (x tree) places(at int64) []place {
	here := place{at: at, end: at + x.size(), sub: x}
	var below []place
	next := at + 1
	for _, arg := range x.args {
		here.args = append(here.args, next)
		below = append(below, arg.places(next)...)
		next += arg.size()
	}
	return append([]place{here}, below...)
}

// symPlaces lists the positions of symbols in x, which stands at the index at.
func (x tree) symPlaces(at int64) []int64 {
	var places []int64
	for _, p := range x.places(at) {
		if p.sub.head >= 0 {
			places = append(places, p.at)
		}
	}
	return places
}

// treesOf returns every tree of the given size over the symbols of sig and the
// given variables (as their numbers in a term).
func treesOf(sig impl.Sig, vars []int64, size int64) []tree {
	var found []tree
	if size == 1 {
		for _, v := range vars {
			found = append(found, tree{head: v})
		}
	}
	for head, arity := range sig.Arity {
		for _, args := range rowsOf(sig, vars, size-1, arity) {
			found = append(found, tree{head: int64(head), args: args})
		}
	}
	return found
}

// rowsOf returns every row of so many trees with the given size altogether.
func rowsOf(sig impl.Sig, vars []int64, size int64, many int64) [][]tree {
	if many == 0 {
		if size == 0 {
			return [][]tree{nil}
		}
		return nil
	}
	var found [][]tree
	for first := int64(1); first <= size-(many-1); first++ {
		rests := rowsOf(sig, vars, size-first, many-1)
		if len(rests) == 0 {
			continue
		}
		for _, x := range treesOf(sig, vars, first) {
			for _, rest := range rests {
				found = append(found, append([]tree{x}, rest...))
			}
		}
	}
	return found
}

// slicesOf returns every slice of at most long numbers of the alphabet.
func slicesOf(alphabet []int64, long int) [][]int64 {
	found := [][]int64{{}}
	last := found
	for range long {
		var longer [][]int64
		for _, s := range last {
			for _, n := range alphabet {
				longer = append(longer, append(append([]int64{}, s...), n))
			}
		}
		found = append(found, longer...)
		last = longer
	}
	return found
}
