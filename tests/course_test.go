package tests

import (
	"slices"
	"testing"

	"loop.example/g00895/impl"
)

func TestCoursesOfSmallTerms(t *testing.T) {
	for _, b := range booksOf(abc(), append(someRulings(), swap()), 2) {
		for _, x := range smallTrees([]int64{-1, -24}, 3) {
			for fuel := range int64(5) {
				checkCourses(t, b, x, fuel)
			}
		}
	}
	for _, b := range longBooks() {
		for _, x := range smallTrees([]int64{-1}, 5) {
			checkCourses(t, b, x, 7)
		}
	}
}

func TestCoursesOfLongTerms(t *testing.T) {
	m, long, differ := makerOf(23), 0, 0
	for range 150 {
		b := m.anyBook()
		trails := checkCourses(t, b, m.bed(b, 1+m.Int64N(impl.MaxTerm)), m.Int64N(impl.MaxWalk+1))
		a, c := trails[0].walk(), trails[1].walk()
		if len(a.Steps) > 5 {
			long++
		}
		if !equalWalks(a, c) {
			differ++
		}
	}
	if long < 25 || differ < 25 {
		t.Error("too few of the walks test much", long, differ)
	}
}

// someBeds returns trees in which every strategy makes some steps, or many.
func someBeds() []tree {
	c := tree{head: 2}
	found := []tree{c, variable(0), onTwo(onOne(c), onTwo(c, c)), tower(20, c), row(onOne(variable(0)), onOne(onTwo(c, variable(1))), onTwo(c, c), onOne(c))}
	m := makerOf(24)
	for range 12 {
		found = append(found, m.bed(longBooks()[5], 4+m.Int64N(30)))
	}
	return found
}

// More fuel continues the same sequence, and a walk that has ended stays as it
// is.
func TestMoreFuelContinuesTheSequence(t *testing.T) {
	ends, goesOn := 0, 0
	for _, b := range append(longBooks(), bookOf(stay()), bookOf(merge(), plusZero(), plusNext())) {
		sys := b.system()
		for _, x := range someBeds() {
			for _, strategy := range strategies() {
				whole, done := impl.WalkBy(sys, x.notation(), strategy, 60)
				for _, fuel := range someFuels(len(whole.Steps)) {
					part := min(int(fuel), len(whole.Steps))
					checkCourse(t, sys, x.notation(), strategy, fuel, walkOf(whole.From, whole.Steps[:part]...), done && part == len(whole.Steps))
				}
				if done {
					ends++
				} else {
					goesOn++
				}
			}
		}
	}
	if ends < 100 || goesOn < 100 {
		t.Error("too few of the walks test much", ends, goesOn)
	}
}

// A walk that is continued from its last term is the walk with the fuel of both.
func TestCoursesAreJoined(t *testing.T) {
	for _, b := range longBooks() {
		sys := b.system()
		for i, x := range someBeds() {
			for _, strategy := range strategies() {
				for _, fuels := range [][2]int64{{0, 3}, {3, 0}, {1, 1}, {2, 5}, {int64(i), 60 - int64(i)}} {
					first, _ := impl.WalkBy(sys, x.notation(), strategy, fuels[0])
					second, ends := impl.WalkBy(sys, endOfSteps(first), strategy, fuels[1])
					both, is := impl.JoinedWalk(sys, first, second)
					if !is {
						t.Fatal(sys, x.notation(), first, second)
					}
					checkCourse(t, sys, x.notation(), strategy, fuels[0]+fuels[1], both, ends)
				}
			}
		}
	}
}

// Every step is the one that PickBy selects and StepAt makes.
func TestStepsOfACourseAreSelected(t *testing.T) {
	for _, b := range longBooks() {
		sys := b.system()
		for _, x := range someBeds() {
			for _, strategy := range strategies() {
				w, done := impl.WalkBy(sys, x.notation(), strategy, 30)
				last := w.From
				for _, step := range w.Steps {
					at, rule, is := impl.PickBy(sys, last, strategy)
					to, fits := impl.StepAt(sys, last, at, rule)
					if !is || !fits || !equalSteps([]impl.Step{step}, []impl.Step{{At: at, Rule: rule, To: to}}) {
						t.Fatal(sys, x.notation(), strategy, step, at, rule)
					}
					last = step.To
				}
				at, rule, is := impl.PickBy(sys, last, strategy)
				_, fits := impl.StepAt(sys, last, at, rule)
				if is == done || !done && fits && len(w.Steps) < 30 {
					t.Fatal(sys, x.notation(), strategy, last, at, rule, fits)
				}
			}
		}
	}
}

// Both of the strategies that take a redex with none below it come to the same
// end by the same number of steps, because such redexes are apart.
func TestInnerStrategiesAgree(t *testing.T) {
	m, many := makerOf(25), 0
	for range 400 {
		b := m.anyBook()
		sys, nums := b.system(), m.bed(b, 1+m.Int64N(40)).notation()
		first, is := impl.NormalBy(sys, nums, impl.StInmost, 60)
		last, does := impl.NormalBy(sys, nums, impl.StLast, 60)
		count := impl.CountBy(sys, nums, impl.StInmost, 60)
		if is && does && (!slices.Equal(first, last) || count != impl.CountBy(sys, nums, impl.StLast, 60)) {
			t.Fatal(sys, nums, first, last)
		}
		if is && does && count > 1 {
			many++
		}
	}
	if many < 60 {
		t.Error("too few of the walks test much", many)
	}
}

// checkNothing checks that every function returns its zero value.
func checkNothing(t *testing.T, sys impl.System, nums []int64) {
	t.Helper()
	checkLists(t, sys, nums, nil, nil, nil)
	for _, strategy := range append(strategies(), 0, 4, -1) {
		checkNoPick(t, sys, nums, strategy)
		for _, fuel := range []int64{0, 1, 60, 61, -1} {
			checkNoCourse(t, sys, nums, strategy, fuel)
		}
	}
}

func TestCoursesOfInvalidSystems(t *testing.T) {
	for _, x := range badSystems() {
		for _, nums := range append(someTerms(), []int64{0}, []int64{1, -1}, []int64{0, 2, -1}, start(), nil) {
			checkNothing(t, x.sys, nums)
		}
	}
}

func TestCoursesOfNoTerms(t *testing.T) {
	for _, x := range noTerms() {
		for _, rules := range [][]impl.Rule{nil, rulesOf([][]int64{{0}, {0}}), rulesOf([][]int64{{2}, {2}}), rulesOf([][]int64{{1, -1}, {-1}, {0, -1, -2}, {-1}, {2}, {1, 2}})} {
			checkNothing(t, impl.System{Sig: x.sig, Rules: rules}, x.nums)
		}
	}
	checkNothing(t, systemOf(), nil)
	checkNothing(t, sums(), []int64{})
}

// Only the strategy or only the fuel is not valid, also for a normal form.
func TestNoStrategyAndNoFuel(t *testing.T) {
	for _, sys := range []impl.System{sums(), systemOf(), bookOf(swap(), grow(), stay()).system(), many(12, []int64{2}, []int64{2})} {
		for _, nums := range append(someTerms(), start()) {
			for _, strategy := range noStrategies() {
				checkNoPick(t, sys, nums, strategy)
				for _, fuel := range []int64{0, 1, 5, 60, 61, -1} {
					checkNoCourse(t, sys, nums, strategy, fuel)
				}
			}
			for _, strategy := range strategies() {
				for _, fuel := range noFuels() {
					checkNoCourse(t, sys, nums, strategy, fuel)
				}
			}
		}
	}
}
