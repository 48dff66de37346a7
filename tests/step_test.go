package tests

import (
	"slices"
	"testing"

	"loop.example/g00895/impl"
)

// start is the document's example f0(f1(f2),f0(f2,f2)).
func start() []int64 { return []int64{0, 1, 2, 0, 2, 2} }

// checkStep checks that the one step is made, and that it is found.
func checkStep(t *testing.T, sys impl.System, nums []int64, x impl.Step) {
	t.Helper()
	if got, is := impl.StepAt(sys, nums, x.At, x.Rule); !is || !slices.Equal(got, x.To) {
		t.Error(sys, nums, x, got, is)
	}
	if !impl.RedexAt(sys, nums, x.At, x.Rule) || impl.NormalIn(sys, nums) {
		t.Error(sys, nums, x, "is no redex")
	}
	isIt := func(y impl.Step) bool { return equalSteps([]impl.Step{x}, []impl.Step{y}) }
	if got := impl.StepsFrom(sys, nums); !slices.ContainsFunc(got, isIt) {
		t.Error(sys, nums, x, got)
	}
}

// checkNoStep checks that a step is not made, and whether there is a redex all
// the same.
func checkNoStep(t *testing.T, sys impl.System, nums []int64, at, rule int64, isRedex bool) {
	t.Helper()
	if got, is := impl.StepAt(sys, nums, at, rule); is || len(got) != 0 {
		t.Error(sys, nums, at, rule, got, is)
	}
	if impl.RedexAt(sys, nums, at, rule) != isRedex {
		t.Error(sys, nums, at, rule, !isRedex)
	}
	isIt := func(y impl.Step) bool { return y.At == at && y.Rule == rule }
	if got := impl.StepsFrom(sys, nums); slices.ContainsFunc(got, isIt) {
		t.Error(sys, nums, at, rule, got)
	}
}

// checkSteps checks what every function says of the steps from x.
func checkSteps(t *testing.T, b book, x tree) {
	t.Helper()
	sys, nums, moves := b.system(), x.notation(), b.moves(x)
	var want []impl.Step
	for _, m := range moves {
		if !m.isLong() {
			want = append(want, m.step())
		}
	}
	if got := impl.StepsFrom(sys, nums); !equalSteps(got, want) {
		t.Fatal(sys, nums, got, want)
	}
	if impl.NormalIn(sys, nums) != (len(moves) == 0) {
		t.Fatal(sys, nums, moves)
	}
	for at := int64(-1); at <= x.size(); at++ {
		for rule := int64(-1); rule <= int64(len(b.list)); rule++ {
			isHere := func(m move) bool { return m.at == at && m.rule == rule }
			i := slices.IndexFunc(moves, isHere)
			if impl.RedexAt(sys, nums, at, rule) != (i >= 0) {
				t.Fatal(sys, nums, at, rule)
			}
			got, is := impl.StepAt(sys, nums, at, rule)
			isStep := i >= 0 && !moves[i].isLong()
			if is != isStep || !is && len(got) != 0 || is && !slices.Equal(got, moves[i].to.notation()) {
				t.Fatal(sys, nums, at, rule, got, is)
			}
		}
	}
}

func TestExamplesOfSteps(t *testing.T) {
	if !impl.RedexAt(sums(), start(), 0, 1) || impl.RedexAt(sums(), start(), 0, 0) {
		t.Error("RedexAt")
	}
	if got, is := impl.StepAt(sums(), start(), 3, 0); !is || !slices.Equal(got, []int64{0, 1, 2, 2}) {
		t.Error("StepAt", got, is)
	}
	want := []impl.Step{{At: 0, Rule: 1, To: []int64{1, 0, 2, 0, 2, 2}}, {At: 3, Rule: 0, To: []int64{0, 1, 2, 2}}}
	if got := impl.StepsFrom(sums(), start()); !equalSteps(got, want) {
		t.Error("StepsFrom", got)
	}
	if !impl.NormalIn(sums(), []int64{1, 2}) || impl.NormalIn(sums(), start()) {
		t.Error("NormalIn")
	}
}

func TestStepAt(t *testing.T) {
	exchange := systemOf([]int64{0, -1, -2}, []int64{0, -2, -1})
	last := systemOf([]int64{0, -1, -24}, []int64{-24})
	cases := []struct {
		sys      impl.System
		nums     []int64
		at, rule int64
		want     []int64
	}{
		{sums(), start(), 0, 1, []int64{1, 0, 2, 0, 2, 2}},
		{sums(), start(), 3, 0, []int64{0, 1, 2, 2}},
		{sums(), []int64{0, 2, -1}, 0, 0, []int64{-1}},
		{sums(), []int64{0, 2, -24}, 0, 0, []int64{-24}},
		{sums(), []int64{0, 1, 2, 2}, 0, 1, []int64{1, 0, 2, 2}},
		// In front of the redex and behind it the term stays.
		{sums(), []int64{0, -3, 0, 0, 2, 1, -1, -2}, 3, 0, []int64{0, -3, 0, 1, -1, -2}},
		{sums(), []int64{1, 1, 0, 0, 2, 2, 1, -24}, 3, 0, []int64{1, 1, 0, 2, 1, -24}},
		// The variables of a rule are not those of the term.
		{exchange, []int64{0, -1, -2}, 0, 0, []int64{0, -2, -1}},
		{exchange, []int64{0, -2, -1}, 0, 0, []int64{0, -1, -2}},
		{exchange, []int64{0, -1, -1}, 0, 0, []int64{0, -1, -1}},
		{exchange, []int64{0, -2, 1, -2}, 0, 0, []int64{0, 1, -2, -2}},
		{exchange, []int64{0, 0, -2, -1, 1, -1}, 1, 0, []int64{0, 0, -1, -2, 1, -1}},
		{exchange, []int64{0, 0, -2, -1, 1, -1}, 0, 0, []int64{0, 1, -1, 0, -2, -1}},
		{last, []int64{0, -24, -1}, 0, 0, []int64{-1}},
		{last, []int64{0, 2, 0, -24, -1}, 2, 0, []int64{0, 2, -1}},
		{last, []int64{0, 2, 0, -24, -1}, 0, 0, []int64{0, -24, -1}},
		// A variable that is twice in the left side, or twice in the right side.
		{systemOf([]int64{0, -1, -1}, []int64{1, -1}), []int64{0, 1, -2, 1, -2}, 0, 0, []int64{1, 1, -2}},
		{systemOf([]int64{1, -1}, []int64{0, -1, -1}), []int64{1, 1, -2}, 0, 0, []int64{0, 1, -2, 1, -2}},
		{systemOf([]int64{1, -1}, []int64{0, -1, -1}), []int64{1, 1, -2}, 1, 0, []int64{1, 0, -2, -2}},
		// No variables, and a result that is the same term.
		{systemOf([]int64{2}, []int64{1, 2}), []int64{0, 2, 2}, 2, 0, []int64{0, 2, 1, 2}},
		{systemOf([]int64{1, 2}, []int64{2}), []int64{0, 1, 2, 1, 2}, 3, 0, []int64{0, 1, 2, 2}},
		{systemOf([]int64{2}, []int64{2}), []int64{2}, 0, 0, []int64{2}},
		// The last one of 12 rules and of eight symbols.
		{impl.System{Sig: abc(), Rules: append(many(11, []int64{2}, []int64{1, 2}).Rules, impl.Rule{L: []int64{1, -1}, R: []int64{-1}})}, []int64{1, 2}, 0, 11, []int64{2}},
		{impl.System{Sig: wide(), Rules: rulesOf([][]int64{{7, -1, 0, -2}, {6, -2}})}, []int64{1, 0, 7, 2, 0, 6, 3, 3}, 2, 0, []int64{1, 0, 6, 6, 3, 3}},
	}
	for _, c := range cases {
		checkStep(t, c.sys, c.nums, impl.Step{At: c.at, Rule: c.rule, To: c.want})
	}
}

func TestNoRedex(t *testing.T) {
	equal := systemOf([]int64{0, -1, -1}, []int64{-1})
	cases := []struct {
		sys      impl.System
		nums     []int64
		at, rule int64
	}{
		{sums(), start(), 0, 0}, {sums(), start(), 1, 0}, {sums(), start(), 1, 1}, {sums(), start(), 2, 0}, {sums(), start(), 3, 1},
		// A variable of the term is not replaced, and is no redex itself.
		{sums(), []int64{0, -1, 2}, 0, 0}, {sums(), []int64{0, -1, 2}, 1, 0}, {sums(), []int64{-1}, 0, 0}, {sums(), []int64{-1}, 0, 1},
		{systemOf([]int64{2}, []int64{2}), []int64{1, -1}, 1, 0},
		// A variable of the left side stands for one term.
		{equal, []int64{0, 2, 1, 2}, 0, 0}, {equal, []int64{0, -1, -2}, 0, 0}, {equal, []int64{0, -2, -1}, 0, 0}, {equal, []int64{0, 1, -1, 1, -2}, 0, 0},
		{equal, []int64{0, -1, 2}, 0, 0}, {equal, []int64{0, 2, -1}, 0, 0}, {equal, []int64{0, -1, 1, -1}, 0, 0}, {equal, []int64{0, 1, -1, -1}, 0, 0},
		{systemOf([]int64{0, -1, 0, -2, -1}, []int64{-1}), []int64{0, 2, 0, 2, -1}, 0, 0},
		// What fits at another position only.
		{equal, []int64{0, 2, 0, -2, -2}, 0, 0}, {equal, []int64{0, 0, -2, -2, 2}, 0, 0},
		{systemOf([]int64{1, 1, -1}, []int64{-1}), []int64{1, 1, 2}, 1, 0},
		// Right sides do not count.
		{systemOf([]int64{1, -1}, []int64{0, -1, -1}), []int64{0, 2, 2}, 0, 0}, {systemOf([]int64{1, 2}, []int64{2}), []int64{2}, 0, 0},
	}
	for _, c := range cases {
		checkNoStep(t, c.sys, c.nums, c.at, c.rule, false)
	}
}

func TestStepsFrom(t *testing.T) {
	choice := systemOf([]int64{0, -1, -2}, []int64{-1}, []int64{1, -1}, []int64{-1}, []int64{0, -1, -2}, []int64{-2})
	cases := []struct {
		sys  impl.System
		nums []int64
		want []impl.Step
	}{
		// Two rules at one position, and one rule at two positions.
		{choice, []int64{0, 2, -1}, []impl.Step{{At: 0, Rule: 0, To: []int64{2}}, {At: 0, Rule: 2, To: []int64{-1}}}},
		{choice, []int64{0, 1, 2, 1, -1}, []impl.Step{
			{At: 0, Rule: 0, To: []int64{1, 2}}, {At: 0, Rule: 2, To: []int64{1, -1}},
			{At: 1, Rule: 1, To: []int64{0, 2, 1, -1}}, {At: 3, Rule: 1, To: []int64{0, 1, 2, -1}},
		}},
		{choice, []int64{1, 0, -1, -2}, []impl.Step{{At: 0, Rule: 1, To: []int64{0, -1, -2}}, {At: 1, Rule: 0, To: []int64{1, -1}}, {At: 1, Rule: 2, To: []int64{1, -2}}}},
		// Steps that lead to the same term, by two positions or by two rules.
		{systemOf([]int64{1, -1}, []int64{-1}), []int64{1, 1, 2}, []impl.Step{{At: 0, To: []int64{1, 2}}, {At: 1, To: []int64{1, 2}}}},
		{many(12, []int64{2}, []int64{1, 2}), []int64{2}, stepsOf(12, []int64{1, 2})},
		{systemOf([]int64{2}, []int64{2}, []int64{0, -1, -1}, []int64{2}), []int64{0, 2, 2}, []impl.Step{{At: 0, Rule: 1, To: []int64{2}}, {At: 1, To: []int64{0, 2, 2}}, {At: 2, To: []int64{0, 2, 2}}}},
		// Normal forms.
		{sums(), []int64{1, 2}, nil}, {sums(), []int64{-1}, nil}, {sums(), []int64{0, -1, 0, 1, -1, -2}, []impl.Step{{At: 2, Rule: 1, To: []int64{0, -1, 1, 0, -1, -2}}}},
		{systemOf(), start(), nil}, {impl.System{Sig: wide(), Rules: []impl.Rule{}}, wideTerm(58), nil},
	}
	for _, c := range cases {
		if got := impl.StepsFrom(c.sys, c.nums); !equalSteps(got, c.want) || impl.NormalIn(c.sys, c.nums) != (len(c.want) == 0) {
			t.Error(c.sys, c.nums, got)
		}
		for _, x := range c.want {
			checkStep(t, c.sys, c.nums, x)
		}
	}
}

// stepsOf returns a step by each of so many rules at the head.
func stepsOf(size int64, to []int64) []impl.Step {
	var steps []impl.Step
	for rule := range size {
		steps = append(steps, impl.Step{Rule: rule, To: to})
	}
	return steps
}

func TestStepsOfSmallTerms(t *testing.T) {
	for _, b := range booksOf(abc(), append(someRulings(), swap()), 2) {
		for _, x := range smallTrees([]int64{-1, -24}, 4) {
			checkSteps(t, b, x)
		}
	}
	for _, r := range someRulings() {
		for _, x := range smallTrees([]int64{-1, -2}, 6) {
			checkSteps(t, bookOf(r), x)
		}
	}
}

// The moves that the tests expect bind variables as any filling does that turns
// the left side into the subterm.
func TestBoundVariables(t *testing.T) {
	for _, p := range smallTrees([]int64{-1, -24}, 4) {
		for _, x := range smallTrees([]int64{-1, -2}, 4) {
			f, all := filling{}, p.matchings(x)
			if p.bind(x, f) != (len(all) == 1) || len(all) == 1 && !equalTerms(all[0].subst(0).Terms, f.subst(0).Terms) {
				t.Fatal(p.notation(), x.notation(), f, all)
			}
		}
	}
}

func TestStepsOfLongTerms(t *testing.T) {
	m, steps, tooLong, rules := makerOf(9), 0, 0, map[int64]int{}
	for range 600 {
		b := m.anyBook()
		x := m.bed(b, 1+m.Int64N(impl.MaxTerm))
		checkSteps(t, b, x)
		for _, y := range b.moves(x) {
			steps++
			rules[y.rule]++
			if y.isLong() {
				tooLong++
			}
		}
	}
	if steps < 2000 || tooLong < 50 || len(rules) != impl.MaxRules {
		t.Error("too few of the terms test much", steps, tooLong, rules)
	}
}

// A step whose result has MaxTerm numbers is made. One more is too many, but
// the redex stays one.
func TestStepsUpToTheLimit(t *testing.T) {
	growing := bookOf(grow()).system()
	for size := 2; size <= impl.MaxTerm; size++ {
		for at := range int64(size - 1) {
			if size < impl.MaxTerm {
				checkStep(t, growing, nested(size), impl.Step{At: at, To: nested(size + 1)})
			} else {
				checkNoStep(t, growing, nested(size), at, 0, true)
			}
		}
	}
	if got := impl.StepsFrom(growing, nested(60)); len(got) != 0 || impl.NormalIn(growing, nested(60)) {
		t.Error(got)
	}
	if got := impl.StepsFrom(growing, nested(59)); len(got) != 58 {
		t.Error(got)
	}
	for _, r := range []ruling{grow(), double(), {onOne(variable(0)), row(variable(0), variable(0), variable(0))}} {
		for high := 1; high < impl.MaxTerm; high++ {
			checkSteps(t, bookOf(r), tower(high, variable(23)))
		}
	}
	// The steps are made at some positions only, and by some rules only.
	for _, x := range []tree{onTwo(tower(28, variable(0)), tower(28, variable(0))), onTwo(tower(50, variable(0)), tower(7, variable(0)))} {
		checkSteps(t, bookOf(double(), shrink(), grow()), x)
	}
}

// Right sides of MaxTerm numbers, alone and inside a term.
func TestLongRightSides(t *testing.T) {
	sys := systemOf([]int64{2}, nested(60), []int64{1, -1}, append(nested(60)[:59], -1), []int64{0, -1, -2}, combOn(-2))
	checkStep(t, sys, []int64{2}, impl.Step{Rule: 0, To: nested(60)})
	checkNoStep(t, sys, []int64{1, 2}, 1, 0, true)
	checkStep(t, sys, []int64{1, 2}, impl.Step{Rule: 1, To: nested(60)})
	checkNoStep(t, sys, []int64{1, 1, 2}, 0, 1, true)
	checkNoStep(t, sys, []int64{1, 1, 2}, 1, 1, true)
	checkStep(t, sys, []int64{0, 2, 1, 2}, impl.Step{Rule: 2, To: combOn(1, 2)})
	checkNoStep(t, sys, []int64{0, 2, 1, 1, 2}, 0, 2, true)
	checkStep(t, sys, []int64{0, 1, 1, 2, -1}, impl.Step{Rule: 2, To: combOn(-1)})
	// What is replaced does not count.
	short := systemOf([]int64{0, -1, -2}, nested(60), []int64{1, -1}, []int64{2}, nested(60), nested(60))
	checkStep(t, short, combOn(1, 2), impl.Step{Rule: 0, To: nested(60)})
	checkStep(t, short, nested(60), impl.Step{Rule: 1, To: []int64{2}})
	checkStep(t, short, nested(60), impl.Step{Rule: 2, To: nested(60)})
}

func TestStepsWithoutRules(t *testing.T) {
	for _, rules := range [][]impl.Rule{nil, {}, sums().Rules[:0]} {
		sys := impl.System{Sig: abc(), Rules: rules}
		for _, nums := range someTerms() {
			if !impl.NormalIn(sys, nums) || len(impl.StepsFrom(sys, nums)) != 0 {
				t.Error(rules, nums)
			}
			for _, at := range somePositions(nums) {
				for _, rule := range somePositions(nil) {
					checkNoStep(t, sys, nums, at, rule, false)
				}
			}
		}
	}
}

func TestNoPositionAndNoRule(t *testing.T) {
	for _, nums := range append(someTerms(), start()) {
		for _, sys := range []impl.System{sums(), many(12, []int64{2}, []int64{2}), bookOf(swap(), grow(), stay()).system()} {
			for _, at := range positionsOutside(nums) {
				for rule := range int64(len(sys.Rules)) {
					checkNoStep(t, sys, nums, at, rule, false)
				}
			}
			for _, rule := range somePositions(make([]int64, len(sys.Rules))) {
				for at := range int64(len(nums)) {
					if rule < 0 || rule >= int64(len(sys.Rules)) {
						checkNoStep(t, sys, nums, at, rule, false)
					}
				}
			}
		}
	}
}

func TestStepsOfInvalidSystems(t *testing.T) {
	terms := append(someTerms(), []int64{0}, []int64{1, -1}, []int64{0, 2, -1}, start())
	for _, x := range badSystems() {
		for _, nums := range terms {
			for at := range int64(len(nums)) {
				checkNoStep(t, x.sys, nums, at, 0, false)
			}
			checkNoStep(t, x.sys, nums, 0, 12, false)
			checkNoStep(t, x.sys, nums, 0, -1, false)
			if got := impl.StepsFrom(x.sys, nums); len(got) != 0 || impl.NormalIn(x.sys, nums) {
				t.Fatal(x.name, nums, got)
			}
		}
	}
}

func TestStepsOfNoTerms(t *testing.T) {
	for _, x := range noTerms() {
		for _, rules := range [][]impl.Rule{nil, rulesOf([][]int64{{0}, {0}}), rulesOf([][]int64{{2}, {2}}), rulesOf([][]int64{{1, -1}, {-1}, {0, -1, -2}, {-1}, {2}, {1, 2}})} {
			sys := impl.System{Sig: x.sig, Rules: rules}
			for at := range min(int64(len(x.nums))+1, 70) {
				for rule := range int64(len(rules)) + 1 {
					checkNoStep(t, sys, x.nums, at, rule, false)
				}
			}
			if got := impl.StepsFrom(sys, x.nums); len(got) != 0 || impl.NormalIn(sys, x.nums) {
				t.Fatal(x.name, x.sig.Arity, got)
			}
		}
	}
}
