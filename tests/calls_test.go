package tests

import (
	"slices"
	"testing"

	"loop.example/g00895/impl"
)

// A termsCall is a function of the document on the arguments that the tests
// vary: two terms or a list of terms. A slice that it returns is given as the
// only element of a substitution.
type termsCall struct {
	name string
	run  func(x termsArgs) impl.Subst
}

// The arguments of a termsCall, valid or not.
type termsArgs struct {
	sig  impl.Sig
	a, b []int64
	ts   [][]int64
}

// checkArgumentsAreKept checks that no call modifies an argument, and none
// returns memory of one.
func checkArgumentsAreKept(t *testing.T, calls []termsCall, samples []termsArgs) {
	t.Helper()
	for _, c := range calls {
		for i, x := range samples {
			guards, list := []guard{guardOf(x.sig.Arity), guardOf(x.a), guardOf(x.b)}, substGuardOf(substOf(x.ts...))
			touched := func() bool { return slices.ContainsFunc(guards, guard.touched) || list.touched() }
			result := c.run(termsArgs{impl.Sig{Arity: guards[0].nums}, guards[1].nums, guards[2].nums, list.s.Terms})
			if touched() {
				t.Fatalf("%s modifies an argument: sample %d", c.name, i)
			}
			overwriteSubst(result)
			if touched() {
				t.Fatalf("the result of %s shares memory with an argument: sample %d", c.name, i)
			}
		}
	}
}

// checkArgumentsOfOneSlice checks that one slice may be both terms and every
// element of a list.
func checkArgumentsOfOneSlice(t *testing.T, calls []termsCall) {
	t.Helper()
	for _, nums := range append(someTerms(), []int64{0, -1, 1, -1}, twice(nested(29))) {
		for at := range int64(len(nums)) {
			for _, c := range calls {
				g := guardOf(nums)
				part := g.nums[at:impl.EndOf(abc(), nums, at)]
				for _, x := range []termsArgs{{a: g.nums, b: part}, {a: part, b: g.nums}, {a: []int64{-1}, b: part}} {
					x.sig, x.ts = abc(), [][]int64{part, g.nums, x.b, x.b}
					want := cloneOf(c.run(termsArgs{abc(), slices.Clone(x.a), slices.Clone(x.b), cloneOf(substOf(x.ts...)).Terms}))
					got := c.run(x)
					if !equalTerms(got.Terms, want.Terms) || g.touched() {
						t.Fatal(c.name, nums, at, got, want)
					}
					overwriteSubst(got)
					if g.touched() {
						t.Fatalf("the result of %s shares memory with an argument: %v, %d", c.name, nums, at)
					}
				}
			}
		}
	}
}

// checkResultsAreNew checks that no result is kept and returned again.
func checkResultsAreNew(t *testing.T, calls []termsCall, samples []termsArgs) {
	t.Helper()
	for _, c := range calls {
		for i, x := range samples {
			first := c.run(x)
			kept := cloneOf(first)
			overwriteSubst(c.run(x))
			if !equalTerms(first.Terms, kept.Terms) {
				t.Fatalf("two results of %s share memory: sample %d", c.name, i)
			}
			overwriteSubst(first)
			if third := c.run(x); !equalTerms(third.Terms, kept.Terms) {
				t.Fatalf("a result of %s was kept: sample %d: %v, then %v", c.name, i, kept, third)
			}
		}
	}
}

// checkElementsAreApart checks that the terms of one result share no memory.
func checkElementsAreApart(t *testing.T, calls []termsCall, samples []termsArgs) {
	t.Helper()
	for _, c := range calls {
		for i, x := range samples {
			result := c.run(x)
			for changed := range result.Terms {
				again := c.run(x)
				overwrite(again.Terms[changed])
				for other, nums := range again.Terms {
					if other != changed && !slices.Equal(nums, result.Terms[other]) {
						t.Fatalf("elements %d and %d of the result of %s share memory: sample %d", changed, other, c.name, i)
					}
				}
			}
		}
	}
}
