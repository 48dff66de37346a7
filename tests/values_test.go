package tests

import (
	"math"
	"slices"
	"testing"

	"loop.example/g00895/impl"
)

func checkValue(t *testing.T, name string, sig impl.Sig, ps []impl.Poly, nums, values []int64, want int64, has bool) {
	t.Helper()
	if got, is := impl.ValueAt(sig, ps, nums, values); is != has || got != want {
		t.Fatal("ValueAt", name, sig, ps, nums, values, got, is, want)
	}
}

func TestValueAt(t *testing.T) {
	example, zeros := []int64{0, 1, -1, 0, -2, -1}, make([]int64, 24)
	last := slices.Clone(zeros)
	last[23] = 7
	cases := []struct {
		name         string
		v            valuation
		nums, values []int64
		want         int64
	}{
		{"the document's example", slanted(), example, []int64{10, 3}, 40},
		{"no values", slanted(), example, nil, 4},
		{"an empty list of values", slanted(), example, []int64{}, 4},
		{"the first value only", slanted(), example, []int64{10}, 34},
		{"the first value is 0", slanted(), example, []int64{0, 3}, 10},
		{"more values than variables", slanted(), example, []int64{10, 3, 1000, 9}, 40},
		{"as many values as there may be", slanted(), example, slices.Repeat([]int64{10}, 24), 54},
		{"the greatest values", slanted(), example, []int64{1000, 1000}, 5004},
		{"a variable", slanted(), []int64{-1}, []int64{1000}, 1000},
		{"a variable that is 0", slanted(), []int64{-1}, []int64{0}, 0},
		{"a variable without a value", slanted(), []int64{-2}, []int64{1000}, 0},
		{"the last variable", slanted(), []int64{-24}, last, 7},
		{"the last variable without a value", slanted(), []int64{-24}, last[:23], 0},
		{"the last variable among others", slanted(), []int64{0, -24, -1}, last, 15},
		{"a variable that is not there", slanted(), []int64{1, -24}, slices.Repeat([]int64{5}, 23), 1},
		{"no variables", slanted(), []int64{1, 2}, []int64{1000}, 1},
		{"a constant", sized(), []int64{2}, nil, 1},
		{"a variable that counts for nothing", blind(), []int64{0, -1, -2}, []int64{3, 1000}, 3},
		{"all variables", sized(), allVars(), slices.Repeat([]int64{1000}, 24), 24023},
		{"all variables, some without a value", sized(), allVars(), slices.Repeat([]int64{1000}, 20), 20023},
		{"MaxTerm numbers", sized(), append(nested(60)[:59], -1), []int64{941}, 1000},
	}
	for _, c := range cases {
		t.Run(c.name, func(t *testing.T) { checkValue(t, c.name, abc(), c.v, c.nums, c.values, c.want, true) })
	}
}

// Every number at every place of the values, whether or not a variable has it.
func TestValueAtOfOneNumber(t *testing.T) {
	numbers := []int64{-1000, -2, -1, 0, 1, 500, 999, 1000, 1001, 1002, 2000, 1 << 32, 1<<32 + 1, -1<<32 + 1, math.MaxInt64, math.MinInt64}
	for _, n := range numbers {
		for size := 1; size <= 24; size++ {
			for at := range size {
				values := make([]int64, size)
				values[at] = n
				isIn, want := n >= 0 && n <= 1000, int64(0)
				if isIn && at == 2 {
					want = n
				}
				checkValue(t, "one number", abc(), slanted(), []int64{-3}, values, want, isIn)
				checkValue(t, "one number, no variables", abc(), slanted(), []int64{2}, values, 0, isIn)
			}
		}
	}
}

func TestValueAtOfTooManyValues(t *testing.T) {
	for _, nums := range append(someTerms(), []int64{-1}, []int64{2}) {
		for _, size := range []int{25, 26, 48, 5000} {
			checkValue(t, "too many", abc(), sized(), nums, make([]int64, size), 0, false)
			checkValue(t, "too many", abc(), sized(), nums, slices.Repeat([]int64{1}, size), 0, false)
		}
		// Values of 1 make the value of a term its size.
		checkValue(t, "as many as there may be", abc(), sized(), nums, slices.Repeat([]int64{1}, 24), int64(len(nums)), true)
	}
}

// The greatest values, and those above them.
func TestValuesAtTheLimit(t *testing.T) {
	x, y, c := variable(0), variable(1), grown(3)
	milliard := powers(3, 9, x)
	cases := []struct {
		name   string
		x      tree
		values []int64
		want   int64
		has    bool
	}{
		{"the constant is MaxForm", brimful(c), []int64{1000}, greatestForm, true},
		{"MaxForm once", brimful(x), []int64{1}, greatestForm, true},
		{"MaxForm twice", brimful(x), []int64{2}, 0, false},
		{"MaxForm 1000 times", brimful(x), []int64{1000}, 0, false},
		{"MaxForm 0 times", brimful(x), []int64{0}, 0, true},
		{"MaxForm without a value", brimful(x), nil, 0, true},
		{"MaxForm once and 1", raised(1, brimful(x)), []int64{1}, 0, false},
		{"MaxForm 0 times and 1", raised(1, brimful(x)), []int64{0}, 1, true},
		{"a milliard 1000 times", milliard, []int64{1000}, greatestForm, true},
		{"a milliard 999 times", milliard, []int64{999}, 999000000000, true},
		{"a milliard 1000 times and 1", raised(1, milliard), []int64{1000}, 0, false},
		{"a milliard 999 times and 1", raised(1, milliard), []int64{999}, 999000000001, true},
		{"a milliard 1000 times and a variable that is 1", grown(4, milliard, y), []int64{1000, 1}, 0, false},
		{"a milliard 1000 times and a variable that is 0", grown(4, milliard, y), []int64{1000, 0}, greatestForm, true},
		{"two variables that are MaxForm together", grown(4, milliard, powers(3, 9, y)), []int64{400, 600}, greatestForm, true},
		{"two variables, one above", grown(4, milliard, powers(3, 9, y)), []int64{400, 601}, 0, false},
		{"the constant is MaxForm and a variable is 0", grown(4, brimful(c), x), []int64{0}, greatestForm, true},
		{"the constant is MaxForm and a variable is 1", grown(4, brimful(c), x), []int64{1}, 0, false},
		{"no form", over(), nil, 0, false},
		{"no form, all values 0", grown(4, brimful(x), x), []int64{0}, 0, false},
		{"no form inside", grown(5, x, over()), []int64{3}, 0, false},
		{"a great value inside that counts for nothing", grown(5, x, brimful(y)), []int64{3, 1000}, 3, true},
	}
	sig, v := growth()
	for _, z := range cases {
		t.Run(z.name, func(t *testing.T) { checkValue(t, z.name, sig, v, z.x.notation(), z.values, z.want, z.has) })
	}
	// 22 variables that count MaxForm times each.
	all := variable(0)
	for i := range int64(21) {
		all = grown(4, all, variable(i+1))
	}
	checkValue(t, "22 variables", sig, v, brimful(all).notation(), slices.Repeat([]int64{1000}, 22), 0, false)
	checkValue(t, "one of 22 variables", sig, v, brimful(all).notation(), append(make([]int64, 21), 1), greatestForm, true)
}

// someValues are values of the variables, some too few and some too many for a term.
func (m maker) someValues() [][]int64 {
	found := [][]int64{nil, {}, {0}, {1}, {1000}, {0, 1000}, {1000, 0}, {3, 5}}
	for range 6 {
		values := make([]int64, m.IntN(25))
		for i := range values {
			values[i] = m.Int64N([]int64{2, 10, 1001}[m.IntN(3)])
		}
		found = append(found, values)
	}
	return found
}

// checkValues checks the value of a tree by the values of its arguments.
func checkValues(t *testing.T, sig impl.Sig, v valuation, x formed, values []int64) bool {
	t.Helper()
	want, has := int64(0), false
	if x.has {
		want = v.value(x.tree, values)
		has = want <= greatestForm
	}
	if !has {
		want = 0
	}
	checkValue(t, "", sig, v, x.notation(), values, want, has)
	return has
}

func TestValuesOfSmallTerms(t *testing.T) {
	m, checked := makerOf(96), 0
	for _, a := range valuedArenas(m, []int64{-1, -2}, 4) {
		for _, x := range a.v.allFormed(a.trees) {
			for _, values := range m.someValues() {
				checkValues(t, a.sig, a.v, x, values)
				checked++
			}
		}
	}
	if checked < 100000 {
		t.Error("too few of the values test much", checked)
	}
}

func TestValuesOfLongTerms(t *testing.T) {
	m, held := makerOf(97), map[bool]int{}
	check := func(sig impl.Sig, v valuation, x tree) {
		f := v.formed(x)
		for _, values := range m.someValues() {
			held[checkValues(t, sig, v, f, values)]++
		}
	}
	for i := range 600 {
		sig := m.book().sig
		check(sig, m.valuation(sig, leasts()[i%4]), m.tree(sig, 2+m.Int64N(59)))
	}
	for i := range 40 {
		check(abc(), m.valuation(abc(), leasts()[i%4]), deepTrees()[i%21])
	}
	if held[true] < 5000 || held[false] < 500 {
		t.Error("too few of the values test much", held)
	}
}
