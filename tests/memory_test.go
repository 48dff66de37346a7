package tests

import (
	"slices"
	"testing"

	"loop.example/g00895/impl"
)

// A guard is a slice with room behind its length. It notices a write to either.
type guard struct {
	nums   []int64
	before []int64
}

func guardOf(nums []int64) guard {
	whole := append([]int64{}, nums...)
	for i := range int64(6) {
		whole = append(whole, 7000+i)
	}
	whole = slices.Clip(whole)
	return guard{nums: whole[:len(nums)], before: slices.Clone(whole)}
}

func (g guard) touched() bool {
	return !slices.Equal(g.nums[:len(g.before)], g.before)
}

// overwrite changes all the memory that a result reaches.
func overwrite(result []int64) {
	whole := result[:cap(result)]
	for i := range whole {
		whole[i] = -9999
	}
}

// A call is a function of the document on the arguments that the tests vary.
// Functions without a slice as their result return nil.
type call struct {
	name string
	run  func(sig impl.Sig, t []int64, u []int64, at int64) []int64
}

func termCalls() []call {
	return []call{
		{"SigOk", func(sig impl.Sig, t, u []int64, at int64) []int64 { impl.SigOk(sig); return nil }},
		{"TermOk", func(sig impl.Sig, t, u []int64, at int64) []int64 { impl.TermOk(sig, t); return nil }},
		{"EndOf", func(sig impl.Sig, t, u []int64, at int64) []int64 { impl.EndOf(sig, t, at); return nil }},
		{"SubAt", func(sig impl.Sig, t, u []int64, at int64) []int64 { return impl.SubAt(sig, t, at) }},
		{"ArgsAt", func(sig impl.Sig, t, u []int64, at int64) []int64 { return impl.ArgsAt(sig, t, at) }},
		{"DepthOf", func(sig impl.Sig, t, u []int64, at int64) []int64 { impl.DepthOf(sig, t); return nil }},
		{"SymPlaces", func(sig impl.Sig, t, u []int64, at int64) []int64 { return impl.SymPlaces(sig, t) }},
		{"CountOf", func(sig impl.Sig, t, u []int64, at int64) []int64 { impl.CountOf(sig, t, at); return nil }},
		{"SameTerm", func(sig impl.Sig, t, u []int64, at int64) []int64 { impl.SameTerm(t, u); return nil }},
		{"LessTerm", func(sig impl.Sig, t, u []int64, at int64) []int64 { impl.LessTerm(t, u); return nil }},
	}
}

// A sample is a signature and two slices, valid or not.
type sample struct {
	sig  impl.Sig
	t, u []int64
}

func samples() []sample {
	found := []sample{}
	for _, t := range someTerms() {
		found = append(found, sample{abc(), t, t}, sample{abc(), t, t[:len(t)-1]})
	}
	for _, x := range noTerms() {
		found = append(found, sample{x.sig, x.nums, big()}, sample{x.sig, big(), x.nums})
	}
	return found
}

func TestArgumentsAreNotModified(t *testing.T) {
	for _, c := range termCalls() {
		for i, s := range samples() {
			for _, at := range somePositions(s.t) {
				arity, a, b := guardOf(s.sig.Arity), guardOf(s.t), guardOf(s.u)
				result := c.run(impl.Sig{Arity: arity.nums}, a.nums, b.nums, at)
				if arity.touched() || a.touched() || b.touched() {
					t.Fatalf("%s modifies an argument: sample %d, at %d", c.name, i, at)
				}
				overwrite(result)
				if arity.touched() || a.touched() || b.touched() {
					t.Fatalf("the result of %s shares memory with an argument: sample %d, at %d", c.name, i, at)
				}
			}
		}
	}
}

func TestResultsAreNew(t *testing.T) {
	for _, c := range termCalls() {
		for i, s := range samples() {
			for _, at := range somePositions(s.t) {
				first := c.run(s.sig, s.t, s.u, at)
				kept := slices.Clone(first)
				second := c.run(s.sig, s.t, s.u, at)
				overwrite(second)
				if !slices.Equal(first, kept) {
					t.Fatalf("two results of %s share memory: sample %d, at %d", c.name, i, at)
				}
				overwrite(first)
				if third := c.run(s.sig, s.t, s.u, at); !slices.Equal(third, kept) {
					t.Fatalf("a result of %s was kept: sample %d, at %d: %v, then %v", c.name, i, at, kept, third)
				}
			}
		}
	}
}

// A result that was kept for the memory of an argument would be wrong for what
// that memory holds later.
func TestResultsFollowTheContents(t *testing.T) {
	arity, nums := []int64{2, 1, 0}, []int64{0, 1, 2, -1}
	sig := impl.Sig{Arity: arity}
	if !slices.Equal(impl.SymPlaces(sig, nums), []int64{0, 1, 2}) || impl.EndOf(sig, nums, 1) != 3 {
		t.Fatal("f0(f1(f2),x0)")
	}
	copy(nums, []int64{0, -1, 1, 2})
	if !slices.Equal(impl.SymPlaces(sig, nums), []int64{0, 2, 3}) || impl.EndOf(sig, nums, 1) != 2 || impl.DepthOf(sig, nums) != 3 {
		t.Fatal("f0(x0,f1(f2))")
	}
	copy(arity, []int64{3, 0, 0})
	if !slices.Equal(impl.ArgsAt(sig, nums, 0), []int64{1, 2, 3}) || impl.DepthOf(sig, nums) != 2 {
		t.Fatal("f0(x0,f1,f2)")
	}
	arity[2] = 1
	if impl.TermOk(sig, nums) || impl.EndOf(sig, nums, 1) != -1 || impl.DepthOf(sig, nums) != 0 {
		t.Fatal("f2 without its argument")
	}
}
