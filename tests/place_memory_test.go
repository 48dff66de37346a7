package tests

import (
	"slices"
	"testing"

	"loop.example/g00895/impl"
)

// A placeCall is a function of chapter 3 on the arguments that the tests vary.
// Functions without a slice as their result return nil.
type placeCall struct {
	name string
	run  func(a placeArgs) []int64
}

// The arguments of a placeCall, valid or not.
type placeArgs struct {
	sig        impl.Sig
	t, u, path []int64
	at, p      int64
}

func placeCalls() []placeCall {
	return []placeCall{
		{"PutAt", func(a placeArgs) []int64 { x, _ := impl.PutAt(a.sig, a.t, a.at, a.u); return x }},
		{"InsideIn", func(a placeArgs) []int64 { impl.InsideIn(a.sig, a.t, a.at, a.p); return nil }},
		{"ApartIn", func(a placeArgs) []int64 { impl.ApartIn(a.sig, a.t, a.at, a.p); return nil }},
		{"AboveOf", func(a placeArgs) []int64 { return impl.AboveOf(a.sig, a.t, a.at) }},
		{"PathOf", func(a placeArgs) []int64 { return impl.PathOf(a.sig, a.t, a.at) }},
		{"PlaceOf", func(a placeArgs) []int64 { impl.PlaceOf(a.sig, a.t, a.path); return nil }},
		{"DeepestOf", func(a placeArgs) []int64 { impl.DeepestOf(a.sig, a.t); return nil }},
	}
}

func placeSamples() []placeArgs {
	paths := [][]int64{nil, {}, {0}, {1}, {0, 0, 1}, {1, 0}, {2}, {-1}, {0, -1}, make([]int64, 59), make([]int64, 60)}
	var found []placeArgs
	add := func(sig impl.Sig, nums, u []int64) {
		for i, at := range somePositions(nums) {
			other := somePositions(u)[len(found)%len(somePositions(u))]
			found = append(found, placeArgs{sig, nums, u, paths[i%len(paths)], at, other})
		}
	}
	for _, nums := range append(someTerms(), comb(57)) {
		for _, u := range someTerms() {
			add(abc(), nums, u)
		}
	}
	for _, x := range noTerms() {
		add(x.sig, x.nums, big())
		add(x.sig, big(), x.nums)
	}
	return found
}

func TestPlaceArgumentsAreNotModified(t *testing.T) {
	for _, c := range placeCalls() {
		for i, x := range placeSamples() {
			guards := []guard{guardOf(x.sig.Arity), guardOf(x.t), guardOf(x.u), guardOf(x.path)}
			touched := func() bool { return slices.ContainsFunc(guards, guard.touched) }
			result := c.run(placeArgs{impl.Sig{Arity: guards[0].nums}, guards[1].nums, guards[2].nums, guards[3].nums, x.at, x.p})
			if touched() {
				t.Fatalf("%s modifies an argument: sample %d", c.name, i)
			}
			overwrite(result)
			if touched() {
				t.Fatalf("the result of %s shares memory with an argument: sample %d", c.name, i)
			}
		}
	}
}

// The whole term may be replaced, by itself or by a part of it, and one slice
// may be the term and what is put into it.
func TestPutAtOfOneSlice(t *testing.T) {
	for at := range int64(len(big())) {
		g := guardOf(big())
		for _, u := range [][]int64{g.nums, g.nums[1:5], g.nums[2:5], g.nums[4:5], g.nums[5:]} {
			want := slices.Concat(big()[:at], u, big()[impl.EndOf(abc(), big(), at):])
			result, done := impl.PutAt(abc(), g.nums, at, u)
			if !done || g.touched() || !slices.Equal(result, want) {
				t.Fatal(at, u, result, done)
			}
			overwrite(result)
			if g.touched() {
				t.Fatal("shared memory", at, u)
			}
		}
	}
}

func TestPlaceResultsAreNew(t *testing.T) {
	for _, c := range placeCalls() {
		for i, x := range placeSamples() {
			first := c.run(x)
			kept := slices.Clone(first)
			overwrite(c.run(x))
			if !slices.Equal(first, kept) {
				t.Fatalf("two results of %s share memory: sample %d", c.name, i)
			}
			overwrite(first)
			if third := c.run(x); !slices.Equal(third, kept) {
				t.Fatalf("a result of %s was kept: sample %d: %v, then %v", c.name, i, kept, third)
			}
		}
	}
}

// A result that was kept for the memory of an argument would be wrong for what
// that memory holds later.
func TestPlaceResultsFollowTheContents(t *testing.T) {
	arity, nums, path := []int64{2, 1, 0}, []int64{0, 1, 2, -1}, []int64{0, 0}
	sig := impl.Sig{Arity: arity}
	if impl.PlaceOf(sig, nums, path) != 2 || impl.DeepestOf(sig, nums) != 2 || !impl.ApartIn(sig, nums, 2, 3) || !slices.Equal(impl.AboveOf(sig, nums, 3), []int64{0}) {
		t.Fatal("f0(f1(f2),x0)")
	}
	copy(nums, []int64{0, -1, 1, 2})
	if impl.PlaceOf(sig, nums, path) != -1 || impl.DeepestOf(sig, nums) != 3 || !impl.InsideIn(sig, nums, 2, 3) || !slices.Equal(impl.AboveOf(sig, nums, 3), []int64{0, 2}) {
		t.Fatal("f0(x0,f1(f2))")
	}
	path[0] = 1
	if impl.PlaceOf(sig, nums, path) != 3 || !slices.Equal(impl.PathOf(sig, nums, 3), path) {
		t.Fatal("the other path")
	}
	copy(arity, []int64{3, 0, 0})
	got, done := impl.PutAt(sig, nums, 1, nums)
	if impl.PlaceOf(sig, nums, path) != -1 || impl.DeepestOf(sig, nums) != 1 || !done || !slices.Equal(got, []int64{0, 0, -1, 1, 2, 1, 2}) {
		t.Fatal("f0(x0,f1,f2)", got)
	}
	arity[2] = 1
	if _, done := impl.PutAt(sig, nums, 1, []int64{-1}); done || impl.DeepestOf(sig, nums) != -1 || len(impl.PathOf(sig, nums, 3)) != 0 {
		t.Fatal("f2 without its argument")
	}
}
