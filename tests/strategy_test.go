package tests

import (
	"slices"
	"testing"

	"loop.example/g00895/impl"
)

// checkCourse checks the walk of a strategy, whether it is told to have ended,
// and P8: it is a rewrite sequence, and it has ended exactly if its last term is
// a normal form.
func checkCourse(t *testing.T, sys impl.System, nums []int64, strategy, fuel int64, want impl.Walk, ends bool) {
	t.Helper()
	w, done := impl.WalkBy(sys, nums, strategy, fuel)
	if !equalWalks(w, want) || done != ends {
		t.Fatal("WalkBy", sys, nums, strategy, fuel, w, done)
	}
	last := endOfSteps(want)
	if !impl.WalkOk(sys, w) || !slices.Equal(w.From, nums) || done != impl.NormalIn(sys, last) {
		t.Fatal(sys, nums, strategy, fuel, w, done)
	}
	end, told := impl.NormalBy(sys, nums, strategy, fuel)
	if told != ends || ends && !slices.Equal(end, last) || !ends && len(end) != 0 {
		t.Fatal("NormalBy", sys, nums, strategy, fuel, end, told)
	}
	count := int64(-1)
	if ends {
		count = int64(len(want.Steps))
	}
	if got := impl.CountBy(sys, nums, strategy, fuel); got != count {
		t.Fatal("CountBy", sys, nums, strategy, fuel, got)
	}
}

// checkNoCourse checks that the functions with fuel return their zero values.
func checkNoCourse(t *testing.T, sys impl.System, nums []int64, strategy, fuel int64) {
	t.Helper()
	if w, done := impl.WalkBy(sys, nums, strategy, fuel); done || !isZeroWalk(w) {
		t.Fatal("WalkBy", sys, nums, strategy, fuel, w)
	}
	if end, told := impl.NormalBy(sys, nums, strategy, fuel); told || len(end) != 0 {
		t.Fatal("NormalBy", sys, nums, strategy, fuel, end)
	}
	if count := impl.CountBy(sys, nums, strategy, fuel); count != -1 {
		t.Fatal("CountBy", sys, nums, strategy, fuel, count)
	}
}

// checkCourses checks the walks from x of every strategy with this fuel, and
// returns the trails.
func checkCourses(t *testing.T, b book, x tree, fuel int64) []trail {
	t.Helper()
	var found []trail
	for _, strategy := range strategies() {
		r, ends := b.course(x, strategy, fuel)
		checkCourse(t, b.system(), x.notation(), strategy, fuel, r.walk(), ends)
		found = append(found, r)
	}
	return found
}

// someFuels are valid: those around a number of steps, and the smallest and the
// greatest ones.
func someFuels(steps int) []int64 {
	fuels := []int64{0, 1, int64(steps) - 1, int64(steps), int64(steps) + 1, 59, 60}
	isOutside := func(fuel int64) bool { return fuel < 0 || fuel > 60 }
	slices.Sort(fuels)
	return slices.Compact(slices.DeleteFunc(fuels, isOutside))
}

// walkOf returns the walk with these steps.
func walkOf(from []int64, steps ...impl.Step) impl.Walk { return impl.Walk{From: from, Steps: steps} }

func TestExamplesOfCourses(t *testing.T) {
	outmost := walkOf(start(), impl.Step{At: 0, Rule: 1, To: []int64{1, 0, 2, 0, 2, 2}}, impl.Step{At: 1, Rule: 0, To: []int64{1, 0, 2, 2}}, impl.Step{At: 1, Rule: 0, To: []int64{1, 2}})
	for _, fuel := range []int64{3, 4, 5, 59, 60} {
		checkCourse(t, sums(), start(), impl.StInmost, fuel, ended(), true)
		checkCourse(t, sums(), start(), impl.StOutmost, fuel, outmost, true)
		checkCourse(t, sums(), start(), impl.StLast, fuel, ended(), true)
	}
	for fuel := range int64(3) {
		checkCourse(t, sums(), start(), impl.StInmost, fuel, walkOf(start(), ended().Steps[:fuel]...), false)
		checkCourse(t, sums(), start(), impl.StOutmost, fuel, walkOf(start(), outmost.Steps[:fuel]...), false)
		checkCourse(t, sums(), start(), impl.StLast, fuel, walkOf(start(), ended().Steps[:fuel]...), false)
	}
	if end, told := impl.NormalBy(sums(), start(), impl.StInmost, 3); !told || !slices.Equal(end, []int64{1, 2}) {
		t.Error("NormalBy", end, told)
	}
	if count := impl.CountBy(sums(), start(), impl.StInmost, 5); count != 3 {
		t.Error("CountBy", count)
	}
}

// Strategies that make other steps, more of them, or steps without an end.
func TestStrategiesDiffer(t *testing.T) {
	// Three positions at first: f0(f1(f0(f2,f2)),f0(f2,f2)).
	three := []int64{0, 1, 0, 2, 2, 0, 2, 2}
	checkCourse(t, sums(), three, impl.StInmost, 2, walkOf(three, impl.Step{At: 2, To: []int64{0, 1, 2, 0, 2, 2}}, impl.Step{At: 3, To: []int64{0, 1, 2, 2}}), false)
	checkCourse(t, sums(), three, impl.StOutmost, 2, walkOf(three, impl.Step{At: 0, Rule: 1, To: []int64{1, 0, 0, 2, 2, 0, 2, 2}}, impl.Step{At: 2, To: []int64{1, 0, 2, 0, 2, 2}}), false)
	checkCourse(t, sums(), three, impl.StLast, 2, walkOf(three, impl.Step{At: 5, To: []int64{0, 1, 0, 2, 2, 2}}, impl.Step{At: 2, To: []int64{0, 1, 2, 2}}), false)
	// A redex is doubled if the outer one is replaced first.
	doubling := systemOf([]int64{1, -1}, []int64{0, -1, -1})
	checkCourse(t, doubling, []int64{1, 1, 2}, impl.StInmost, 60, walkOf([]int64{1, 1, 2}, impl.Step{At: 1, To: []int64{1, 0, 2, 2}}, impl.Step{At: 0, To: []int64{0, 0, 2, 2, 0, 2, 2}}), true)
	checkCourse(t, doubling, []int64{1, 1, 2}, impl.StOutmost, 60, walkOf([]int64{1, 1, 2}, impl.Step{At: 0, To: []int64{0, 1, 2, 1, 2}}, impl.Step{At: 1, To: []int64{0, 0, 2, 2, 1, 2}}, impl.Step{At: 4, To: []int64{0, 0, 2, 2, 0, 2, 2}}), true)
	// Only the outer redex leads to an end, or only the inner one.
	outer := systemOf([]int64{0, 2, -1}, []int64{2}, []int64{1, -1}, []int64{1, -1})
	inner := systemOf([]int64{0, -1, 1, -2}, []int64{0, -1, 1, -2}, []int64{1, -1}, []int64{-1})
	for _, fuel := range someFuels(30)[1:] {
		never := walkOf([]int64{0, 2, 1, 2}, slices.Repeat([]impl.Step{{At: 2, Rule: 1, To: []int64{0, 2, 1, 2}}}, int(fuel))...)
		checkCourse(t, outer, never.From, impl.StInmost, fuel, never, false)
		checkCourse(t, outer, never.From, impl.StOutmost, fuel, walkOf(never.From, impl.Step{To: []int64{2}}), true)
		checkCourse(t, outer, never.From, impl.StLast, fuel, never, false)
		once := walkOf([]int64{0, 2, 1, 2}, impl.Step{At: 2, Rule: 1, To: []int64{0, 2, 2}})
		never = walkOf(once.From, slices.Repeat([]impl.Step{{To: []int64{0, 2, 1, 2}}}, int(fuel))...)
		checkCourse(t, inner, once.From, impl.StInmost, fuel, once, true)
		checkCourse(t, inner, once.From, impl.StOutmost, fuel, never, false)
		checkCourse(t, inner, once.From, impl.StLast, fuel, once, true)
	}
	// Two normal forms.
	two := impl.System{Sig: impl.Sig{Arity: []int64{2, 1, 0, 0}}, Rules: rulesOf([][]int64{{1, 2}, {3}, {2}, {3}})}
	checkCourse(t, two, []int64{1, 2}, impl.StInmost, 60, walkOf([]int64{1, 2}, impl.Step{At: 1, Rule: 1, To: []int64{1, 3}}), true)
	checkCourse(t, two, []int64{1, 2}, impl.StOutmost, 60, walkOf([]int64{1, 2}, impl.Step{At: 0, Rule: 0, To: []int64{3}}), true)
	checkCourse(t, two, []int64{1, 2}, impl.StLast, 60, walkOf([]int64{1, 2}, impl.Step{At: 1, Rule: 1, To: []int64{1, 3}}), true)
}

// Of two rules with a redex at the position the smallest is taken in every step.
func TestSmallestRuleOfACourse(t *testing.T) {
	first, second := []int64{-1}, []int64{-2}
	nums := []int64{0, 2, 0, 1, 2, -1}
	for _, strategy := range []int64{impl.StInmost, impl.StLast} {
		sys := systemOf([]int64{0, -1, -2}, first, []int64{0, -1, -2}, second)
		checkCourse(t, sys, nums, strategy, 60, walkOf(nums, impl.Step{At: 2, To: []int64{0, 2, 1, 2}}, impl.Step{At: 0, To: []int64{2}}), true)
		sys = systemOf([]int64{0, -1, -2}, second, []int64{0, -1, -2}, first)
		checkCourse(t, sys, nums, strategy, 60, walkOf(nums, impl.Step{At: 2, To: []int64{0, 2, -1}}, impl.Step{At: 0, To: []int64{-1}}), true)
	}
	// The first rule does not fit everywhere, so that others are taken too.
	sys := systemOf([]int64{0, 2, -1}, first, []int64{0, -1, -2}, []int64{1, -2}, []int64{0, -1, 2}, first)
	checkCourse(t, sys, nums, impl.StInmost, 60, walkOf(nums, impl.Step{At: 2, Rule: 1, To: []int64{0, 2, 1, -1}}, impl.Step{At: 0, Rule: 0, To: []int64{1, -1}}), true)
	checkCourse(t, sys, nums, impl.StOutmost, 60, walkOf(nums, impl.Step{At: 0, Rule: 0, To: []int64{0, 1, 2, -1}}, impl.Step{At: 0, Rule: 1, To: []int64{1, -1}}), true)
}

func TestCoursesOfNormalForms(t *testing.T) {
	for _, nums := range append(someTerms(), start(), nested(1)) {
		for _, rules := range [][]impl.Rule{nil, {}, sums().Rules[:0], rulesOf([][]int64{{0, 0, -1, -1, 0, -1, -1}, {-1}})} {
			sys := impl.System{Sig: abc(), Rules: rules}
			checkLists(t, sys, nums, nil, nil, nil)
			for _, strategy := range strategies() {
				checkNoPick(t, sys, nums, strategy)
				for _, fuel := range someFuels(30) {
					checkCourse(t, sys, nums, strategy, fuel, resting(nums), true)
				}
				checkNoCourse(t, sys, nums, strategy, 61)
				checkNoCourse(t, sys, nums, strategy, -1)
			}
		}
	}
}

// countdown is a system with exactly one walk of so many steps, at most 61, from
// the term to a normal form, apart from the order of its steps.
func countdown(steps int) (impl.System, []int64) {
	sys := impl.System{Sig: impl.Sig{Arity: []int64{1, 0, 0, 0}}, Rules: rulesOf([][]int64{{0, -1}, {-1}, {1}, {2}, {2}, {3}})}
	if steps < 60 {
		return sys, append(make([]int64, steps), 3)
	}
	return sys, append(make([]int64, 59), 62-int64(steps))
}

// The fuel may be used up exactly when the normal form is reached, also if it is
// MaxWalk. One step less is too few.
func TestFuelThatIsUsedUp(t *testing.T) {
	for steps := range 62 {
		sys, nums := countdown(steps)
		for _, strategy := range strategies() {
			for _, fuel := range someFuels(steps) {
				w, done := impl.WalkBy(sys, nums, strategy, fuel)
				if ends := int64(steps) <= fuel; done != ends || len(w.Steps) != min(steps, int(fuel)) {
					t.Fatal(steps, strategy, fuel, w, done)
				}
				checkCourse(t, sys, nums, strategy, fuel, w, done)
				if done && !slices.Equal(endOfSteps(w), []int64{3}) {
					t.Fatal(steps, strategy, fuel, w)
				}
			}
			for _, fuel := range noFuels() {
				checkNoCourse(t, sys, nums, strategy, fuel)
			}
		}
	}
	if impl.MaxWalk != 60 {
		t.Error(impl.MaxWalk)
	}
}

func TestSystemsThatNeverEnd(t *testing.T) {
	cases := []struct {
		sys   impl.System
		terms [][]int64 // in turn
	}{
		{systemOf([]int64{2}, []int64{2}), [][]int64{{2}}},
		{bookOf(swap()).system(), [][]int64{{0, -1, -2}, {0, -2, -1}}},
		{systemOf([]int64{1, -1}, []int64{1, -1}), [][]int64{{0, -1, 1, -2}}},
		{systemOf([]int64{0, 2, -1}, []int64{0, 1, 2, -1}, []int64{0, 1, -1, -2}, []int64{0, -1, -2}), [][]int64{{0, 2, -1}, {0, 1, 2, -1}}},
	}
	for _, c := range cases {
		for _, strategy := range strategies() {
			for _, fuel := range someFuels(30) {
				w, done := impl.WalkBy(c.sys, c.terms[0], strategy, fuel)
				if done || int64(len(w.Steps)) != fuel {
					t.Fatal(c.sys, strategy, fuel, w)
				}
				for i, nums := range slicesOfWalk(w) {
					if !slices.Equal(nums, c.terms[i%len(c.terms)]) {
						t.Fatal(c.sys, strategy, fuel, i, w)
					}
				}
				checkCourse(t, c.sys, c.terms[0], strategy, fuel, w, false)
			}
			checkNoCourse(t, c.sys, []int64{2}, strategy, 61)
		}
	}
}

// A step to a term of MaxTerm numbers is made. The next one ends the walk, though
// there is a redex.
func TestStepsThatAreTooLongEndAWalk(t *testing.T) {
	growing := bookOf(grow()).system()
	for size := 2; size <= impl.MaxTerm; size++ {
		for _, strategy := range strategies() {
			for _, fuel := range someFuels(60 - size) {
				w, done := impl.WalkBy(growing, nested(size), strategy, fuel)
				if done || len(w.Steps) != min(int(fuel), 60-size) {
					t.Fatal(size, strategy, fuel, w)
				}
				checkCourse(t, growing, nested(size), strategy, fuel, w, false)
			}
		}
	}
}

// The step that is selected is too long, but there are others that are not.
func TestTooLongStepsBesideOthers(t *testing.T) {
	left, right := onTwo(tower(54, variable(0)), onOne(variable(0))), onTwo(onOne(variable(0)), tower(54, variable(0)))
	cases := []struct {
		b     book
		x     tree
		steps [3]int
		done  bool
	}{
		// Another rule at the position would fit, unless it is the smallest one.
		{bookOf(grow(), shrink()), tower(59, variable(0)), [3]int{0, 0, 0}, false},
		{bookOf(shrink(), grow()), tower(59, variable(0)), [3]int{59, 59, 59}, true},
		{bookOf(stay(), grow(), shrink()), tower(59, variable(0)), [3]int{0, 0, 0}, false},
		{bookOf(double(), shrink()), tower(30, variable(0)), [3]int{4, 0, 4}, false},
		// Another position would fit.
		{bookOf(grow()), onTwo(tower(56, variable(0)), onOne(variable(0))), [3]int{0, 0, 0}, false},
		{bookOf(double()), left, [3]int{1, 0, 2}, false},
		{bookOf(double()), right, [3]int{2, 1, 1}, false},
	}
	for _, c := range cases {
		for i, r := range checkCourses(t, c.b, c.x, 60) {
			if len(r.moves) != c.steps[i] {
				t.Error(c.b.system(), c.x.notation(), i, len(r.moves))
			}
			if _, done := impl.WalkBy(c.b.system(), c.x.notation(), strategies()[i], 60); done != c.done {
				t.Error(c.b.system(), c.x.notation(), i, done)
			}
		}
	}
}
