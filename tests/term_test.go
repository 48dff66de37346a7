package tests

import (
	"math"
	"slices"
	"testing"

	"loop.example/g00895/impl"
)

// abc is the signature of the document's examples: f0, f1 and f2 with two, one
// and no arguments.
func abc() impl.Sig { return impl.Sig{Arity: []int64{2, 1, 0}} }

// big is the document's example f0(f1(f0(x0,f2)),x2).
func big() []int64 { return []int64{0, 1, 0, -1, 2, -3} }

// nested is f1(f1(..f2..)) with the given number of elements.
func nested(size int) []int64 {
	nums := slices.Repeat([]int64{1}, size)
	nums[size-1] = 2
	return nums
}

// comb is f0(f2,f0(f2,..x23)) with the given odd number of elements.
func comb(size int) []int64 {
	nums := slices.Repeat([]int64{0, 2}, size/2)
	return append(nums, -impl.MaxVars)
}

// wide is the signature with the most symbols and the most arguments.
func wide() impl.Sig { return impl.Sig{Arity: []int64{0, 3, 0, 0, 3, 0, 1, 3}} }

// wideTerm is a term of wide with the given number of elements, which is one
// more than a multiple of three: f7(f0,f0,f7(f0,f0,..)).
func wideTerm(size int) []int64 {
	return append(slices.Repeat([]int64{7, 0, 0}, size/3), 0)
}

func someTerms() [][]int64 {
	return [][]int64{big(), {2}, {-1}, {-24}, {1, 2}, {0, -1, -1}, {0, 0, -1, 2, 1, -24}, nested(60), comb(59)}
}

func somePositions(t []int64) []int64 {
	n := int64(len(t))
	return []int64{
		0, 1, 2, 3, 4, 5, 6, n - 2, n - 1, n, n + 1, -1, -2, -24, -25, 60, 61,
		1 << 32, -1 << 32, 1<<32 + 1, math.MaxInt64, math.MaxInt64 - 1, math.MinInt64, math.MinInt64 + 1,
	}
}

// A nonTerm is a slice that is no term of its signature, which may not be
// valid either.
type nonTerm struct {
	name string
	sig  impl.Sig
	nums []int64
}

func badSigs() []impl.Sig {
	return []impl.Sig{
		{},
		{Arity: []int64{}},
		{Arity: []int64{4}},
		{Arity: []int64{-1}},
		{Arity: []int64{0, 1, 2, 3, 4}},
		{Arity: []int64{2, 1, 0, 4}},
		{Arity: []int64{2, 1, 0, -1}},
		{Arity: []int64{4, 1, 0}},
		{Arity: []int64{2, 1, 0, 0, 0, 0, 0, 0, 0}},
		{Arity: make([]int64, 9)},
		{Arity: make([]int64, 1000)},
		{Arity: []int64{2, 1, 0, 1 << 32}},
		{Arity: []int64{2, 1, 0, math.MaxInt64}},
		{Arity: []int64{2, 1, 0, math.MinInt64}},
	}
}

func noTerms() []nonTerm {
	found := []nonTerm{
		{"nil", abc(), nil},
		{"empty", abc(), []int64{}},
		{"no arguments", abc(), []int64{0}},
		{"one argument of two", abc(), []int64{0, 2}},
		{"no argument of one", abc(), []int64{0, -1, 1}},
		{"two terms", abc(), []int64{2, 2}},
		{"a term and a variable", abc(), []int64{0, -1, 2, -1}},
		{"a term and a missing argument", abc(), []int64{2, 1}},
		{"an unknown symbol", abc(), []int64{3}},
		{"an unknown symbol inside", abc(), []int64{0, 2, 3}},
		{"an unknown symbol behind", abc(), []int64{1, 2, 3}},
		{"the ninth symbol", wide(), []int64{8}},
		{"an unknown variable", abc(), []int64{-25}},
		{"an unknown variable inside", abc(), []int64{0, -25, 2}},
		{"an unknown variable at the end", abc(), []int64{0, 2, -25}},
		{"a number that is a symbol in 32 bits", abc(), []int64{1<<32 + 2}},
		{"the greatest number", abc(), []int64{1, math.MaxInt64}},
		{"the smallest number", abc(), []int64{1, math.MinInt64}},
		{"61 elements, nested", abc(), nested(61)},
		{"61 elements, a comb", abc(), comb(61)},
		{"61 elements, wide", wide(), wideTerm(61)},
		{"58 elements and one more", wide(), append(wideTerm(58), 0)},
		{"60 elements, not complete", abc(), slices.Repeat([]int64{1}, 60)},
		{"many elements", abc(), nested(5000)},
	}
	for _, sig := range badSigs() {
		found = append(found, nonTerm{"no signature, a variable", sig, []int64{-1}})
		found = append(found, nonTerm{"no signature, a constant", sig, []int64{2}})
		found = append(found, nonTerm{"no signature, the example", sig, big()})
	}
	return found
}

func TestSigOk(t *testing.T) {
	good := []impl.Sig{
		abc(), wide(),
		{Arity: []int64{0}}, {Arity: []int64{3}}, {Arity: []int64{1, 2, 3}},
		{Arity: make([]int64, 8)}, {Arity: slices.Repeat([]int64{3}, 8)},
	}
	for _, sig := range good {
		if !impl.SigOk(sig) {
			t.Error(sig.Arity, "is valid")
		}
	}
	for _, sig := range badSigs() {
		if impl.SigOk(sig) {
			t.Error(sig.Arity, "is not valid")
		}
	}
	for arity := int64(-6); arity <= 9; arity++ {
		for at := range 8 {
			sig := impl.Sig{Arity: make([]int64, 8)}
			sig.Arity[at] = arity
			if impl.SigOk(sig) != (arity >= 0 && arity <= 3) {
				t.Error(sig.Arity)
			}
		}
	}
}

func TestLimits(t *testing.T) {
	if impl.MaxSyms != 8 || impl.MaxArity != 3 || impl.MaxVars != 24 || impl.MaxTerm != 60 {
		t.Error(impl.MaxSyms, impl.MaxArity, impl.MaxVars, impl.MaxTerm)
	}
}

func TestTermOk(t *testing.T) {
	for _, x := range someTerms() {
		if !impl.TermOk(abc(), x) {
			t.Error(x, "is a term")
		}
	}
	for _, x := range [][]int64{{0}, {7, 0, 2, 3}, {6, 5}, {4, -1, -24, 0}, wideTerm(58), append([]int64{6, 6}, wideTerm(58)...)} {
		if !impl.TermOk(wide(), x) {
			t.Error(x, "is a term")
		}
	}
	for _, x := range noTerms() {
		if impl.TermOk(x.sig, x.nums) {
			t.Error(x.name, x.sig.Arity, x.nums)
		}
	}
	for n := int64(-40); n <= 20; n++ {
		if impl.TermOk(abc(), []int64{n}) != (n >= -24 && n <= -1 || n == 2) {
			t.Error(n)
		}
	}
	for size := 1; size <= 130; size++ {
		if impl.TermOk(abc(), nested(size)) != (size <= 60) {
			t.Error("nested", size)
		}
		if size%3 == 1 && impl.TermOk(wide(), wideTerm(size)) != (size <= 60) {
			t.Error("wide", size)
		}
	}
}

// Of all short slices exactly those are terms that are written for a tree.
func TestTermOkOfAllShortSlices(t *testing.T) {
	alphabet := []int64{-25, -24, -1, 0, 1, 2, 3}
	for _, sig := range []impl.Sig{abc(), {Arity: []int64{0, 3}}, {Arity: []int64{0}}, {Arity: []int64{2}}, {Arity: []int64{1, 0, 2, 3}}} {
		var terms [][]int64
		for size := int64(1); size <= 5; size++ {
			for _, x := range treesOf(sig, []int64{-24, -1}, size) {
				terms = append(terms, x.notation())
			}
		}
		slices.SortFunc(terms, slices.Compare)
		for _, s := range slicesOf(alphabet, 5) {
			_, want := slices.BinarySearchFunc(terms, s, slices.Compare)
			if impl.TermOk(sig, s) != want {
				t.Fatal(sig.Arity, s, want)
			}
		}
	}
}

func TestEndOf(t *testing.T) {
	for at, want := range []int64{6, 5, 5, 4, 5, 6, -1, -1} {
		if got := impl.EndOf(abc(), big(), int64(at)); got != want {
			t.Error(at, got, want)
		}
	}
	for at := range int64(60) {
		if got := impl.EndOf(abc(), nested(60), at); got != 60 {
			t.Error("nested", at, got)
		}
	}
	for at := range int64(58) {
		want := int64(58)
		if at%3 != 0 {
			want = at + 1
		}
		if got := impl.EndOf(wide(), wideTerm(58), at); got != want {
			t.Error("wide", at, got, want)
		}
	}
	for _, at := range positionsOutside(big()) {
		if got := impl.EndOf(abc(), big(), at); got != -1 {
			t.Error(at, got)
		}
	}
	for _, x := range noTerms() {
		for _, at := range somePositions(x.nums) {
			if got := impl.EndOf(x.sig, x.nums, at); got != -1 {
				t.Error(x.name, x.sig.Arity, at, got)
			}
		}
	}
}

// positionsOutside returns numbers that are no positions of a term like t.
func positionsOutside(t []int64) []int64 {
	var outside []int64
	for _, at := range somePositions(t) {
		if at < 0 || at >= int64(len(t)) {
			outside = append(outside, at)
		}
	}
	return outside
}

func TestSubAt(t *testing.T) {
	for at, want := range [][]int64{big(), {1, 0, -1, 2}, {0, -1, 2}, {-1}, {2}, {-3}} {
		if got := impl.SubAt(abc(), big(), int64(at)); !slices.Equal(got, want) {
			t.Error(at, got, want)
		}
	}
	for at := range 60 {
		if got := impl.SubAt(abc(), nested(60), int64(at)); !slices.Equal(got, nested(60-at)) {
			t.Error("nested", at, got)
		}
	}
	for _, at := range positionsOutside(big()) {
		if got := impl.SubAt(abc(), big(), at); len(got) != 0 {
			t.Error(at, got)
		}
	}
	for _, x := range noTerms() {
		for _, at := range somePositions(x.nums) {
			if got := impl.SubAt(x.sig, x.nums, at); len(got) != 0 {
				t.Error(x.name, x.sig.Arity, at, got)
			}
		}
	}
}

func TestArgsAt(t *testing.T) {
	for at, want := range [][]int64{{1, 5}, {2}, {3, 4}, {}, {}, {}} {
		if got := impl.ArgsAt(abc(), big(), int64(at)); !slices.Equal(got, want) {
			t.Error(at, got, want)
		}
	}
	if got := impl.ArgsAt(wide(), []int64{7, 6, 7, 0, -1, 2, -2, 4, 0, 0, 0}, 0); !slices.Equal(got, []int64{1, 6, 7}) {
		t.Error(got)
	}
	if got := impl.ArgsAt(wide(), wideTerm(58), 54); !slices.Equal(got, []int64{55, 56, 57}) {
		t.Error(got)
	}
	for _, at := range positionsOutside(big()) {
		if got := impl.ArgsAt(abc(), big(), at); len(got) != 0 {
			t.Error(at, got)
		}
	}
	for _, x := range noTerms() {
		for _, at := range somePositions(x.nums) {
			if got := impl.ArgsAt(x.sig, x.nums, at); len(got) != 0 {
				t.Error(x.name, x.sig.Arity, at, got)
			}
		}
	}
}

func TestDepthOf(t *testing.T) {
	cases := []struct {
		nums []int64
		want int64
	}{
		{big(), 4}, {[]int64{2}, 1}, {[]int64{-1}, 1}, {[]int64{-24}, 1}, {[]int64{1, -1}, 2},
		{[]int64{0, 1, 1, 2, -1}, 4}, {[]int64{0, -1, 1, 1, 2}, 4}, {[]int64{0, 1, 2, 1, 2}, 3},
		{nested(60), 60}, {nested(59), 59}, {comb(59), 30},
	}
	for _, c := range cases {
		if got := impl.DepthOf(abc(), c.nums); got != c.want {
			t.Error(c.nums, got, c.want)
		}
	}
	if got := impl.DepthOf(wide(), []int64{7, 0, 6, 6, 0, 6, 0}); got != 4 {
		t.Error("the deepest argument is the second of three", got)
	}
	if got := impl.DepthOf(wide(), wideTerm(58)); got != 20 {
		t.Error("wide", got)
	}
	for _, x := range noTerms() {
		if got := impl.DepthOf(x.sig, x.nums); got != 0 {
			t.Error(x.name, x.sig.Arity, got)
		}
	}
}

func TestSymPlaces(t *testing.T) {
	cases := []struct {
		nums []int64
		want []int64
	}{
		{big(), []int64{0, 1, 2, 4}}, {[]int64{2}, []int64{0}}, {[]int64{-1}, nil}, {[]int64{-24}, nil},
		{[]int64{0, -1, -1}, []int64{0}}, {[]int64{0, -1, 2}, []int64{0, 2}},
	}
	for _, c := range cases {
		if got := impl.SymPlaces(abc(), c.nums); !slices.Equal(got, c.want) {
			t.Error(c.nums, got, c.want)
		}
	}
	all := impl.SymPlaces(abc(), nested(60))
	for at := range int64(60) {
		if int64(len(all)) <= at || all[at] != at {
			t.Fatal("nested", all)
		}
	}
	for _, x := range noTerms() {
		if got := impl.SymPlaces(x.sig, x.nums); len(got) != 0 {
			t.Error(x.name, x.sig.Arity, got)
		}
	}
}

func TestCountOf(t *testing.T) {
	for n, want := range map[int64]int64{0: 2, 1: 1, 2: 1, 3: 0, -1: 1, -2: 0, -3: 1, -4: 0, 7: 0} {
		if got := impl.CountOf(abc(), big(), n); got != want {
			t.Error(n, got, want)
		}
	}
	if got := impl.CountOf(abc(), nested(60), 1); got != 59 {
		t.Error("nested", got)
	}
	if got := impl.CountOf(abc(), comb(59), 2); got != 29 {
		t.Error("comb", got)
	}
	if got := impl.CountOf(abc(), []int64{0, -24, 0, -24, -24}, -24); got != 3 {
		t.Error("x23", got)
	}
	for _, n := range []int64{8, -25, 1 << 32, -1 - 1<<32, math.MaxInt64, math.MinInt64} {
		if got := impl.CountOf(abc(), big(), n); got != 0 {
			t.Error(n, got)
		}
	}
	for _, x := range noTerms() {
		for _, n := range append([]int64{-25, -3, -1, 0, 1, 2, 3}, x.nums...) {
			if got := impl.CountOf(x.sig, x.nums, n); got != 0 {
				t.Fatal(x.name, x.sig.Arity, n, got)
			}
		}
	}
}

// Every function agrees with the trees at every position of every small term,
// and behind both ends.
func TestFunctionsOnAllSmallTerms(t *testing.T) {
	for _, sig := range []impl.Sig{abc(), {Arity: []int64{0, 3, 1}}} {
		for size := int64(1); size <= 6; size++ {
			for _, x := range treesOf(sig, []int64{-1, -24}, size) {
				checkTerm(t, sig, x)
			}
		}
	}
}

func checkTerm(t *testing.T, sig impl.Sig, x tree) {
	nums := x.notation()
	if !impl.TermOk(sig, nums) || impl.DepthOf(sig, nums) != x.depth() || !slices.Equal(impl.SymPlaces(sig, nums), x.symPlaces(0)) {
		t.Fatal(sig.Arity, nums)
	}
	for n := int64(-25); n <= 4; n++ {
		if impl.CountOf(sig, nums, n) != x.count(n) {
			t.Fatal(sig.Arity, nums, n)
		}
	}
	for _, p := range x.places(0) {
		if impl.EndOf(sig, nums, p.at) != p.end || !slices.Equal(impl.ArgsAt(sig, nums, p.at), p.args) || !slices.Equal(impl.SubAt(sig, nums, p.at), p.sub.notation()) {
			t.Fatal(sig.Arity, nums, p.at)
		}
	}
	for _, at := range []int64{-1, x.size(), x.size() + 1} {
		if impl.EndOf(sig, nums, at) != -1 || len(impl.ArgsAt(sig, nums, at)) != 0 || len(impl.SubAt(sig, nums, at)) != 0 {
			t.Fatal(sig.Arity, nums, at)
		}
	}
}

// P1: a term can be put together again from the head and the arguments that
// the functions report for it.
func TestTermIsHeadAndArguments(t *testing.T) {
	terms := append(someTerms(), []int64{0, 1, 0, 0, -1, -2, 2, 0, 1, -3, 0, 2, -24})
	for _, x := range terms {
		for at := range int64(len(x)) {
			sub := impl.SubAt(abc(), x, at)
			built, end := []int64{x[at]}, at+1
			deepest, twos := int64(0), int64(0)
			if x[at] == 2 {
				twos = 1
			}
			for _, place := range impl.ArgsAt(abc(), x, at) {
				arg := impl.SubAt(abc(), x, place)
				if place != end || !impl.TermOk(abc(), arg) {
					t.Fatal(x, at, place)
				}
				built, end = append(built, arg...), impl.EndOf(abc(), x, place)
				deepest = max(deepest, impl.DepthOf(abc(), arg))
				twos += impl.CountOf(abc(), arg, 2)
			}
			if !impl.SameTerm(built, sub) || end != impl.EndOf(abc(), x, at) || impl.DepthOf(abc(), sub) != deepest+1 || impl.CountOf(abc(), sub, 2) != twos {
				t.Fatal(x, at, built, sub)
			}
		}
	}
}

// P1: any symbol with as many terms as its arity is a term, up to MaxTerm.
func TestHeadAndArgumentsAreATerm(t *testing.T) {
	sizes := []int{1, 2, 28, 29, 30, 31, 58, 59, 60}
	for _, a := range sizes {
		if got := impl.TermOk(abc(), append([]int64{1}, nested(a)...)); got != (a+1 <= 60) {
			t.Error(a, got)
		}
		for _, b := range sizes {
			x := append(append([]int64{0}, nested(a)...), nested(b)...)
			if got := impl.TermOk(abc(), x); got != (a+b+1 <= 60) {
				t.Error(a, b, got)
			}
			if a+b+1 <= 60 && !slices.Equal(impl.ArgsAt(abc(), x, 0), []int64{1, 1 + int64(a)}) {
				t.Error(a, b, impl.ArgsAt(abc(), x, 0))
			}
		}
	}
}

func TestSameTerm(t *testing.T) {
	same := [][2][]int64{
		{big(), big()}, {nil, nil}, {nil, {}}, {{}, nil}, {{0}, {0}}, {{99, -99}, {99, -99}},
		{nested(61), nested(61)}, {{math.MinInt64, math.MaxInt64}, {math.MinInt64, math.MaxInt64}},
	}
	for _, c := range same {
		if !impl.SameTerm(c[0], c[1]) {
			t.Error(c, "are equal")
		}
	}
	differ := [][2][]int64{
		{big(), big()[:5]}, {big(), big()[1:]}, {nil, {0}}, {{0}, {0, 0}}, {{1, 2}, {2, 1}},
		{{-1}, {-2}}, {{0, 1, 2}, {3, 1, 2}}, {{0, 1, 2}, {0, 3, 2}}, {{0, 1, 2}, {0, 1, 3}},
		{nested(60), nested(61)}, {{0}, {1 << 32}}, {{math.MinInt64}, {math.MaxInt64}}, {{1}, {-1}},
	}
	for _, c := range differ {
		if impl.SameTerm(c[0], c[1]) || impl.SameTerm(c[1], c[0]) {
			t.Error(c, "are not equal")
		}
	}
}

func TestLessTerm(t *testing.T) {
	rising := [][]int64{
		{}, {math.MinInt64}, {-25}, {-2}, {-1}, {0}, {2}, {1 << 32}, {math.MaxInt64},
		{math.MinInt64, math.MaxInt64}, {-1, 9}, {0, 0}, {0, 1}, {1, -1}, {1, 2}, {math.MaxInt64, math.MinInt64},
		{-9, -9, -9}, {0, -1, 2}, {0, 0, 3}, {0, 1, 0}, {0, 1, 1}, {1, 0, 0}, big(), nested(60), nested(61),
	}
	for i, a := range rising {
		for j, b := range rising {
			if impl.LessTerm(a, b) != (i < j) {
				t.Error(a, b, i < j)
			}
			if impl.SameTerm(a, b) != (i == j) {
				t.Error(a, b, i == j)
			}
		}
	}
	if impl.LessTerm(nil, nil) || impl.LessTerm(nil, []int64{}) || impl.LessTerm([]int64{}, nil) || !impl.LessTerm(nil, []int64{-25}) || impl.LessTerm([]int64{-25}, nil) {
		t.Error("nil")
	}
}

// slicesOf lists shorter slices first and each length in the order of its
// numbers, so that the order of the list is the order of terms.
func TestLessTermOfAllShortSlices(t *testing.T) {
	list := slicesOf([]int64{-2, -1, 0, 1}, 4)
	for i, a := range list {
		for j, b := range list {
			if impl.LessTerm(a, b) != (i < j) || impl.SameTerm(a, b) != (i == j) {
				t.Fatal(a, b)
			}
		}
	}
}
