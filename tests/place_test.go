package tests

import (
	"math"
	"slices"
	"testing"

	"loop.example/g00895/impl"
)

func TestPutAt(t *testing.T) {
	cases := []struct {
		sig     impl.Sig
		t       []int64
		at      int64
		u, want []int64
	}{
		{abc(), big(), 2, []int64{1, -2}, []int64{0, 1, 1, -2, -3}},
		{abc(), big(), 0, []int64{2}, []int64{2}},
		{abc(), big(), 0, []int64{-24}, []int64{-24}},
		{abc(), big(), 0, big(), big()},
		{abc(), big(), 1, []int64{-1}, []int64{0, -1, -3}},
		{abc(), big(), 3, []int64{0, 2, 2}, []int64{0, 1, 0, 0, 2, 2, 2, -3}},
		{abc(), big(), 4, []int64{-5}, []int64{0, 1, 0, -1, -5, -3}},
		{abc(), big(), 5, []int64{1, 1, 2}, []int64{0, 1, 0, -1, 2, 1, 1, 2}},
		{abc(), big(), 5, big(), append(big()[:5], big()...)},
		{abc(), []int64{2}, 0, []int64{-1}, []int64{-1}},
		{abc(), []int64{-1}, 0, []int64{1, -1}, []int64{1, -1}},
		{abc(), []int64{0, -1, -1}, 1, []int64{2}, []int64{0, 2, -1}},
		{abc(), []int64{0, -1, -1}, 2, []int64{2}, []int64{0, -1, 2}},
		{abc(), nested(60), 0, []int64{2}, []int64{2}},
		{abc(), nested(60), 0, comb(59), comb(59)},
		{abc(), []int64{2}, 0, nested(60), nested(60)},
		{wide(), []int64{7, 6, 0, 2, 3}, 3, []int64{7, 0, -1, 0}, []int64{7, 6, 0, 7, 0, -1, 0, 3}},
		{wide(), []int64{7, 6, 0, 2, 3}, 1, []int64{3}, []int64{7, 3, 2, 3}},
		{wide(), []int64{7, 6, 0, 2, 3}, 4, []int64{6, 0}, []int64{7, 6, 0, 2, 6, 0}},
	}
	for _, c := range cases {
		if got, done := impl.PutAt(c.sig, c.t, c.at, c.u); !done || !slices.Equal(got, c.want) {
			t.Error(c.t, c.at, c.u, got, done)
		}
	}
}

// The limit is on the result: what is replaced does not count.
func TestPutAtUpToTheLimit(t *testing.T) {
	for _, size := range []int{1, 2, 30, 59, 60} {
		for at := range size {
			for b := 1; b <= 60; b++ {
				got, done := impl.PutAt(abc(), nested(size), int64(at), nested(b))
				if done != (at+b <= 60) || done && !slices.Equal(got, nested(at+b)) || !done && len(got) != 0 {
					t.Fatal(size, at, b, got, done)
				}
			}
		}
	}
	for b := 1; b <= 60; b++ {
		got, done := impl.PutAt(abc(), comb(59), 31, nested(b))
		want := slices.Concat(comb(59)[:31], nested(b), comb(59)[32:])
		if done != (58+b <= 60) || done && !slices.Equal(got, want) || !done && len(got) != 0 {
			t.Error(b, got, done)
		}
	}
	for _, size := range []int{1, 4} {
		got, done := impl.PutAt(wide(), wideTerm(58), 56, wideTerm(size))
		if done != (size == 1) || done && !slices.Equal(got, wideTerm(58)) || !done && len(got) != 0 {
			t.Error("wide", size, got, done)
		}
	}
}

func TestPutAtOfInvalidArguments(t *testing.T) {
	check := func(name string, sig impl.Sig, nums []int64, at int64, u []int64) {
		if got, done := impl.PutAt(sig, nums, at, u); done || len(got) != 0 {
			t.Fatal(name, sig.Arity, nums, at, u, got, done)
		}
	}
	for _, nums := range someTerms() {
		for _, at := range positionsOutside(nums) {
			check("no position", abc(), nums, at, []int64{2})
			check("no position, no term to put", abc(), nums, at, nil)
		}
	}
	for _, x := range noTerms() {
		for _, at := range somePositions(x.nums) {
			for _, u := range [][]int64{{2}, {-1}, big(), x.nums} {
				check(x.name, x.sig, x.nums, at, u)
			}
		}
		for _, nums := range someTerms() {
			for at := range int64(len(nums)) {
				check(x.name, x.sig, nums, at, x.nums)
			}
		}
	}
	// Here the result would be a term, but u is none.
	check("the next argument in u", abc(), []int64{0, -1, 2}, 1, []int64{2, 1})
	check("an argument behind u", abc(), []int64{0, 2, 1, 2}, 1, []int64{1})
}

func TestInsideAndApart(t *testing.T) {
	// Of each position of the example: what is inside it.
	inside := [][]int64{{0, 1, 2, 3, 4, 5}, {1, 2, 3, 4}, {2, 3, 4}, {3}, {4}, {5}}
	for at, list := range inside {
		for p, other := range inside {
			below, above := slices.Contains(list, int64(p)), slices.Contains(other, int64(at))
			if impl.InsideIn(abc(), big(), int64(at), int64(p)) != below {
				t.Error("inside", at, p)
			}
			if impl.ApartIn(abc(), big(), int64(at), int64(p)) != (!below && !above) {
				t.Error("apart", at, p)
			}
		}
	}
	for at := range int64(60) {
		for p := range int64(60) {
			if impl.InsideIn(abc(), nested(60), at, p) != (at <= p) || impl.ApartIn(abc(), nested(60), at, p) {
				t.Fatal("nested", at, p)
			}
		}
	}
	for at := range int64(59) {
		for p := range int64(59) {
			inside := at == p || at%2 == 0 && at < p
			if impl.InsideIn(abc(), comb(59), at, p) != inside || impl.ApartIn(abc(), comb(59), at, p) == (inside || p%2 == 0 && p < at) {
				t.Fatal("comb", at, p)
			}
		}
	}
}

// Neither of two numbers may be anything but a position.
func TestInsideAndApartOfInvalidArguments(t *testing.T) {
	check := func(name string, sig impl.Sig, nums []int64, at int64, p int64) {
		if impl.InsideIn(sig, nums, at, p) || impl.InsideIn(sig, nums, p, at) {
			t.Fatal("inside", name, sig.Arity, nums, at, p)
		}
		if impl.ApartIn(sig, nums, at, p) || impl.ApartIn(sig, nums, p, at) {
			t.Fatal("apart", name, sig.Arity, nums, at, p)
		}
	}
	for _, nums := range append(someTerms(), []int64{0, -1, 2}) {
		for _, at := range positionsOutside(nums) {
			for _, p := range append(somePositions(nums), -3, -5) {
				check("no position", abc(), nums, at, p)
			}
		}
	}
	for _, x := range noTerms() {
		for _, at := range somePositions(x.nums) {
			for _, p := range somePositions(x.nums) {
				check(x.name, x.sig, x.nums, at, p)
			}
		}
	}
}

func TestAboveAndPath(t *testing.T) {
	above := [][]int64{{}, {0}, {0, 1}, {0, 1, 2}, {0, 1, 2}, {0}}
	path := [][]int64{{}, {0}, {0, 0}, {0, 0, 0}, {0, 0, 1}, {1}}
	for at := range big() {
		if got := impl.AboveOf(abc(), big(), int64(at)); !slices.Equal(got, above[at]) {
			t.Error(at, got, above[at])
		}
		if got := impl.PathOf(abc(), big(), int64(at)); !slices.Equal(got, path[at]) {
			t.Error(at, got, path[at])
		}
	}
	for at := range int64(60) {
		var all []int64
		for p := range at {
			all = append(all, p)
		}
		if got := impl.AboveOf(abc(), nested(60), at); !slices.Equal(got, all) {
			t.Error("nested", at, got)
		}
		if got := impl.PathOf(abc(), nested(60), at); !slices.Equal(got, make([]int64, at)) {
			t.Error("nested", at, got)
		}
	}
	wideAbove, widePath := impl.AboveOf(wide(), wideTerm(58), 56), impl.PathOf(wide(), wideTerm(58), 56)
	if len(wideAbove) != 19 || wideAbove[18] != 54 || !slices.Equal(widePath, append(slices.Repeat([]int64{2}, 18), 1)) {
		t.Error("wide", wideAbove, widePath)
	}
}

func TestAboveAndPathOfInvalidArguments(t *testing.T) {
	for _, nums := range someTerms() {
		for _, at := range positionsOutside(nums) {
			if above, path := impl.AboveOf(abc(), nums, at), impl.PathOf(abc(), nums, at); len(above)+len(path) != 0 {
				t.Error(nums, at, above, path)
			}
		}
	}
	for _, x := range noTerms() {
		for _, at := range somePositions(x.nums) {
			if above, path := impl.AboveOf(x.sig, x.nums, at), impl.PathOf(x.sig, x.nums, at); len(above)+len(path) != 0 {
				t.Error(x.name, x.sig.Arity, at, above, path)
			}
		}
	}
}

func TestPlaceOf(t *testing.T) {
	cases := []struct {
		nums, path []int64
		want       int64
	}{
		{big(), nil, 0}, {big(), []int64{}, 0}, {big(), []int64{0}, 1}, {big(), []int64{1}, 5},
		{big(), []int64{0, 0}, 2}, {big(), []int64{0, 0, 0}, 3}, {big(), []int64{0, 0, 1}, 4},
		{[]int64{2}, nil, 0}, {[]int64{-1}, nil, 0}, {[]int64{0, -1, 1, 2}, []int64{1, 0}, 3},
		{nested(60), make([]int64, 59), 59}, {comb(59), slices.Repeat([]int64{1}, 29), 58},
		// There is no such argument.
		{big(), []int64{2}, -1}, {big(), []int64{3}, -1}, {big(), []int64{0, 1}, -1}, {big(), []int64{0, 0, 2}, -1},
		// A variable and a symbol of arity 0 have none.
		{big(), []int64{1, 0}, -1}, {big(), []int64{0, 0, 0, 0}, -1}, {big(), []int64{0, 0, 1, 0}, -1},
		{[]int64{2}, []int64{0}, -1}, {[]int64{-1}, []int64{0}, -1}, {nested(60), make([]int64, 60), -1},
		// Negative elements, at the start, on the way and at the end.
		{big(), []int64{-1}, -1}, {big(), []int64{-1, 0, 1}, -1}, {big(), []int64{0, -1, 1}, -1}, {big(), []int64{0, 0, -1}, -1},
		{big(), []int64{1, -1}, -1}, {big(), []int64{2, -1}, -1}, {big(), []int64{math.MinInt64}, -1},
		{big(), []int64{math.MaxInt64}, -1}, {big(), []int64{1 << 32}, -1}, {big(), []int64{1<<32 + 1}, -1}, {big(), []int64{0, 1 << 32, 1}, -1},
		{big(), make([]int64, 5000), -1}, {nested(60), make([]int64, 5000), -1},
	}
	for _, c := range cases {
		if got := impl.PlaceOf(abc(), c.nums, c.path); got != c.want {
			t.Error(c.nums, c.path, got, c.want)
		}
	}
	for arg, want := range []int64{1, 3, 4, -1} {
		if got := impl.PlaceOf(wide(), []int64{7, 6, 0, 2, 3}, []int64{int64(arg)}); got != want {
			t.Error("wide", arg, got)
		}
	}
	for _, x := range noTerms() {
		for _, path := range [][]int64{nil, {}, {0}, {1}, {0, 0}, {-1}} {
			if got := impl.PlaceOf(x.sig, x.nums, path); got != -1 {
				t.Error(x.name, x.sig.Arity, path, got)
			}
		}
	}
}

func TestDeepestOf(t *testing.T) {
	cases := []struct {
		sig  impl.Sig
		nums []int64
		want int64
	}{
		{abc(), big(), 3}, {abc(), []int64{2}, 0}, {abc(), []int64{-24}, 0}, {abc(), []int64{1, -1}, 1},
		{abc(), []int64{0, -1, -1}, 1}, {abc(), []int64{0, 1, 2, 1, 2}, 2}, {abc(), []int64{0, 1, 2, 1, 1, 2}, 5},
		{abc(), []int64{0, 2, 1, -1}, 3}, {abc(), []int64{0, 0, 2, 2, 0, 2, 2}, 2}, {abc(), []int64{0, 2, 0, 0, 2, 2, 0, 2, 2}, 4},
		{abc(), nested(60), 59}, {abc(), comb(59), 57},
		{wide(), []int64{7, 0, 0, 0}, 1}, {wide(), []int64{7, 0, 6, 0, 6, 0}, 3}, {wide(), []int64{7, 0, 0, 6, 0}, 4},
		{wide(), wideTerm(58), 55}, {wide(), []int64{6, 7, 6, 6, 0, 6, 0, 6, 6, 0}, 4},
	}
	for _, c := range cases {
		if got := impl.DeepestOf(c.sig, c.nums); got != c.want {
			t.Error(c.nums, got, c.want)
		}
	}
	for _, x := range noTerms() {
		if got := impl.DeepestOf(x.sig, x.nums); got != -1 {
			t.Error(x.name, x.sig.Arity, got)
		}
	}
}

// Every function of one or two positions agrees with the paths of the trees at
// every position of every small term, and behind both ends.
func TestPositionsOfAllSmallTerms(t *testing.T) {
	for _, s := range signedTrees(6) {
		nums, spots := s.x.notation(), s.x.spots()
		if got := impl.DeepestOf(s.sig, nums); got != deepest(spots) {
			t.Fatal(s.sig.Arity, nums, got)
		}
		for _, p := range spots {
			above, path := impl.AboveOf(s.sig, nums, p.at), impl.PathOf(s.sig, nums, p.at)
			if !slices.Equal(above, p.above) || !slices.Equal(path, p.path) || impl.PlaceOf(s.sig, nums, p.path) != p.at {
				t.Fatal(s.sig.Arity, nums, p.at, above, path)
			}
			for _, q := range spots {
				if impl.InsideIn(s.sig, nums, p.at, q.at) != q.inside(p) || impl.ApartIn(s.sig, nums, p.at, q.at) != p.apart(q) {
					t.Fatal(s.sig.Arity, nums, p.at, q.at)
				}
			}
		}
		for _, at := range []int64{-1, s.x.size(), s.x.size() + 1} {
			_, done := impl.PutAt(s.sig, nums, at, nums)
			if done || len(impl.AboveOf(s.sig, nums, at))+len(impl.PathOf(s.sig, nums, at)) != 0 || impl.InsideIn(s.sig, nums, 0, at) || impl.ApartIn(s.sig, nums, at, 0) {
				t.Fatal(s.sig.Arity, nums, at)
			}
		}
	}
}

// Of all short paths exactly those lead to a position that the trees have.
func TestPlaceOfAllShortPaths(t *testing.T) {
	paths := slicesOf([]int64{-2, -1, 0, 1, 2, 3}, 4)
	bushy := tree{head: 1, args: []tree{{head: 0}, {head: 2, args: []tree{{head: -1}}}, {head: 1, args: []tree{{head: 0}, {head: 0}, {head: 2, args: []tree{{head: 0}}}}}}}
	terms := append(signedTrees(5), signed{impl.Sig{Arity: []int64{0, 3, 1}}, bushy})
	for _, s := range terms {
		nums, spots := s.x.notation(), s.x.spots()
		for _, path := range paths {
			if got := impl.PlaceOf(s.sig, nums, path); got != spotAt(spots, path) {
				t.Fatal(s.sig.Arity, nums, path, got)
			}
		}
	}
}

func TestPutAtOfSmallTerms(t *testing.T) {
	for _, s := range signedTrees(5) {
		for _, u := range signedTrees(3) {
			if !slices.Equal(s.sig.Arity, u.sig.Arity) {
				continue
			}
			for _, p := range s.x.spots() {
				got, done := impl.PutAt(s.sig, s.x.notation(), p.at, u.x.notation())
				if !done || !slices.Equal(got, s.x.put(p.path, u.x).notation()) {
					t.Fatal(s.sig.Arity, s.x.notation(), p.at, u.x.notation(), got, done)
				}
			}
		}
	}
}

// P3, with nothing but the program's own functions: what was put at a position
// is found there, by its number and by its path, and every position apart from
// it keeps its path and its subterm, as those above it keep their symbols.
func TestReplacedSubtermIsFound(t *testing.T) {
	for _, nums := range append(someTerms(), []int64{0, 1, 0, 0, -1, -2, 2, 0, 1, -3, 0, 2, -24}) {
		for _, u := range append(someTerms(), []int64{1, 1, 2}) {
			for at := range int64(len(nums)) {
				checkReplaced(t, nums, at, u)
			}
		}
	}
}

func checkReplaced(t *testing.T, nums []int64, at int64, u []int64) {
	old := impl.SubAt(abc(), nums, at)
	size := len(nums) - len(old) + len(u)
	result, done := impl.PutAt(abc(), nums, at, u)
	if done != (size <= 60) || !done && len(result) != 0 {
		t.Fatal(nums, at, u, result, done)
	}
	if !done {
		return
	}
	if len(result) != size || !impl.TermOk(abc(), result) || !slices.Equal(impl.SubAt(abc(), result, at), u) {
		t.Fatal(nums, at, u, result)
	}
	if path := impl.PathOf(abc(), nums, at); impl.PlaceOf(abc(), result, path) != at || !slices.Equal(impl.PathOf(abc(), result, at), path) {
		t.Fatal(nums, at, u, result, path)
	}
	for _, p := range impl.AboveOf(abc(), nums, at) {
		if result[p] != nums[p] || !impl.InsideIn(abc(), result, p, at) {
			t.Fatal(nums, at, u, result, p)
		}
	}
	for p := range int64(len(nums)) {
		if impl.ApartIn(abc(), nums, at, p) {
			checkUnchanged(t, nums, result, at, p)
		}
	}
	if back, done := impl.PutAt(abc(), result, at, old); !done || !slices.Equal(back, nums) {
		t.Fatal(nums, at, u, result, back)
	}
}

func checkUnchanged(t *testing.T, nums, result []int64, at, p int64) {
	path := impl.PathOf(abc(), nums, p)
	now := impl.PlaceOf(abc(), result, path)
	if now < 0 || !slices.Equal(impl.SubAt(abc(), result, now), impl.SubAt(abc(), nums, p)) || !impl.ApartIn(abc(), result, at, now) {
		t.Fatal(nums, result, at, p, now)
	}
	moved := p
	if p > at {
		moved += int64(len(result) - len(nums))
	}
	if now != moved {
		t.Fatal(nums, result, at, p, now, moved)
	}
}

// P3: the order in which the subterms at two positions apart are replaced does
// not matter.
func TestReplacementsApartCommute(t *testing.T) {
	one, two := []int64{1, 1, -2}, []int64{0, 2, 1, 2}
	for _, s := range signedTrees(6) {
		if !slices.Equal(s.sig.Arity, abc().Arity) {
			continue
		}
		nums := s.x.notation()
		for _, p := range s.x.spots() {
			for _, q := range s.x.spots() {
				if !p.apart(q) {
					continue
				}
				first, _ := impl.PutAt(abc(), nums, p.at, one)
				first, _ = impl.PutAt(abc(), first, impl.PlaceOf(abc(), first, q.path), two)
				second, _ := impl.PutAt(abc(), nums, q.at, two)
				second, done := impl.PutAt(abc(), second, impl.PlaceOf(abc(), second, p.path), one)
				if !done || !slices.Equal(first, second) {
					t.Fatal(nums, p.at, q.at, first, second)
				}
			}
		}
	}
}
