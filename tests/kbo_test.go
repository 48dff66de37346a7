package tests

import (
	"slices"
	"testing"

	"loop.example/g00895/impl"
)

// checkKbo checks what the functions on two terms say if this is the first condition for
// t being greater than s.
func checkKbo(t *testing.T, sig impl.Sig, w impl.Weights, less, more []int64, why int64) {
	t.Helper()
	if got := impl.KboWhy(sig, w, less, more); got != why {
		t.Fatal("KboWhy", sig, w, less, more, got, why)
	}
	if got := impl.KboLess(sig, w, less, more); got != (why > 0) {
		t.Fatal("KboLess", sig, w, less, more, got)
	}
}

func TestExamplesOfKbo(t *testing.T) {
	checkKbo(t, abc(), light(), []int64{0, -1, 0, -2, -3}, []int64{0, 0, -1, -2, -3}, 4)
	checkKbo(t, abc(), light(), []int64{-1}, []int64{0, 2, -1}, 1)
	checkKbo(t, abc(), light(), []int64{1, 0, -1, -2}, []int64{0, 1, -1, -2}, 3)
}

// A weighing of two terms with the condition by which the second one is greater, and
// that by which the first one is.
type weighing struct {
	name       string
	w          impl.Weights
	less, more []int64
	why, back  int64
}

func checkWeighings(t *testing.T, sig impl.Sig, cases []weighing) {
	t.Helper()
	for _, c := range cases {
		t.Run(c.name, func(t *testing.T) {
			checkKbo(t, sig, c.w, c.less, c.more, c.why)
			checkKbo(t, sig, c.w, c.more, c.less, c.back)
		})
	}
}

func TestKboOfVariables(t *testing.T) {
	heavy := weightsOf(1, []int64{20, 20, 20}, 2, 1, 0)
	checkWeighings(t, abc(), []weighing{
		{"a variable and itself", light(), []int64{-1}, []int64{-1}, 0, 0},
		{"two variables", light(), []int64{-1}, []int64{-2}, 0, 0},
		{"the last two variables", hollow(), []int64{-23}, []int64{-24}, 0, 0},
		{"a variable and a constant of the same weight", light(), []int64{-1}, []int64{2}, 0, 0},
		{"a variable and a heavier constant", heavy, []int64{-1}, []int64{2}, 0, 0},
		{"a variable and the highest constant", even(), []int64{-1}, []int64{2}, 0, 0},
		{"a variable and a heavier term without it", heavy, []int64{-1}, []int64{1, 1, -2}, 0, 0},
		{"a variable and a heavier term with it", light(), []int64{-1}, []int64{1, -1}, 1, 0},
		{"a variable in the second argument", light(), []int64{-1}, []int64{0, -2, -1}, 1, 0},
		{"a constant and a heavier term with a variable", light(), []int64{2}, []int64{1, -1}, 1, 0},
		{"a constant and a term of the same weight with a variable", hollow(), []int64{2}, []int64{1, -1}, 3, 0},
		{"a higher constant and a term of the same weight", weightsOf(1, []int64{1, 1, 2}, 1, 0, 2), []int64{2}, []int64{1, -1}, 0, 0},
		{"a variable more often in the less heavy term", light(), []int64{0, -1, -1}, []int64{0, 1, 1, -1, 2}, 0, 0},
		{"a variable more often in a term of the same weight", light(), []int64{0, -1, -1}, []int64{0, -1, 2}, 0, 0},
		{"a variable more often in a term with a lower head", even(), []int64{0, -1, -1}, []int64{1, 1, -1}, 0, 0},
		{"a variable as often in a heavier term", light(), []int64{0, -1, -1}, []int64{0, 1, -1, -1}, 1, 0},
		{"a variable more often in the heavier term", light(), []int64{0, -1, 2}, []int64{0, 0, -1, -1, 2}, 1, 0},
		{"another variable in the less heavy term", light(), []int64{0, -1, -3}, []int64{0, 1, 1, -1, -2}, 0, 0},
		{"another variable in the heavier term only", light(), []int64{1, -1}, []int64{0, 1, -1, -2}, 1, 0},
		{"the arguments exchanged", light(), []int64{0, -1, -2}, []int64{0, -2, -1}, 0, 0},
		{"one variable twice and two variables", light(), []int64{0, -1, -1}, []int64{0, -1, -2}, 0, 0},
	})
}

func TestKboOfATermAndItself(t *testing.T) {
	for _, nums := range append(someTerms(), []int64{0, 2, 2}, []int64{0, 0, -1, -2, -3}, []int64{1, -1}) {
		for _, w := range fairWeights(abc(), 2) {
			checkKbo(t, abc(), w, nums, slices.Clone(nums), 0)
			checkKbo(t, abc(), w, nums, nums, 0)
		}
	}
	m := makerOf(77)
	for range 50 {
		checkKbo(t, wide(), m.weights(wide()), wideTerm(58), wideTerm(58), 0)
	}
}

// Condition 1 leaves none of the others, which are about terms of the same weight.
func TestFirstConditionOfKbo(t *testing.T) {
	checkWeighings(t, abc(), []weighing{
		{"heavier with a higher head", light(), []int64{1, 2}, []int64{0, 2, 1, 2}, 1, 0},
		{"heavier with a greater first argument", even(), []int64{0, 2, 2}, []int64{0, 1, 2, 2}, 1, 0},
		{"heavier, around a variable also by what weighs nothing", hollow(), []int64{-1}, []int64{1, 0, 1, -1, 2}, 1, 0},
		{"one number more", even(), []int64{1, 2}, []int64{1, 1, 2}, 1, 0},
		{"a heavier constant", weightsOf(1, []int64{0, 1, 3}, 2, 1, 0), []int64{1, 1, -1}, []int64{0, 2, -1}, 1, 0},
		{"heavier with a lower head", even(), []int64{1, 2}, []int64{0, 2, 2}, 1, 0},
		{"heavier with a lesser first argument", even(), []int64{0, 1, 2, 2}, []int64{0, 2, 1, 1, 2}, 1, 0},
		{"heavier with fewer numbers", weightsOf(1, []int64{0, 1, 20}, 2, 1, 0), []int64{1, 1, 1, -1}, []int64{0, 2, -1}, 1, 0},
		{"heavier by the variables", weightsOf(2, []int64{0, 1, 2}, 2, 1, 0), []int64{1, -1}, []int64{0, -1, -1}, 1, 0},
		{"MaxTerm numbers and one less", even(), nested(59), nested(60), 1, 0},
	})
}

// In condition 2 the variable is inside one or more unary symbols of weight 0.
func TestSecondConditionOfKbo(t *testing.T) {
	last := append(nested(60)[:59], -24)
	heavy := weightsOf(20, []int64{20, 0, 20}, 1, 2, 0)
	checkWeighings(t, abc(), []weighing{
		{"one symbol", hollow(), []int64{-1}, []int64{1, -1}, 2, 0},
		{"two symbols", hollow(), []int64{-1}, []int64{1, 1, -1}, 2, 0},
		{"59 symbols around the last variable", hollow(), []int64{-24}, last, 2, 0},
		{"one symbol, the greatest weights", heavy, []int64{-1}, []int64{1, -1}, 2, 0},
		{"59 symbols, the greatest weights", heavy, []int64{-24}, last, 2, 0},
		{"another variable inside one symbol", hollow(), []int64{-1}, []int64{1, -2}, 0, 0},
		{"another variable inside 59 symbols", hollow(), []int64{-23}, last, 0, 0},
		{"a constant inside", hollow(), []int64{-1}, []int64{1, 2}, 0, 0},
		{"a unary symbol that weighs something", light(), []int64{-1}, []int64{1, -1}, 1, 0},
		{"a symbol that weighs nothing around two variables", hollow(), []int64{-1}, []int64{0, -1, -2}, 1, 0},
		{"one symbol around several", hollow(), []int64{1, -1}, []int64{1, 1, 1, -1}, 4, 0},
	})
	flat := impl.Sig{Arity: []int64{1, 1, 0}}
	checkWeighings(t, flat, []weighing{
		{"the first one of two unary symbols", weightsOf(1, []int64{0, 1, 1}, 2, 1, 0), []int64{-3}, []int64{0, 0, -3}, 2, 0},
		{"the second one of two unary symbols", weightsOf(1, []int64{1, 0, 1}, 1, 2, 0), []int64{-3}, []int64{1, 1, -3}, 2, 0},
		{"both unary symbols", weightsOf(1, []int64{1, 0, 1}, 1, 2, 0), []int64{-3}, []int64{1, 0, 1, -3}, 1, 0},
	})
	checkWeighings(t, impl.Sig{Arity: []int64{1}}, []weighing{
		{"the only symbol", weightsOf(20, []int64{0}, 0), []int64{-1}, []int64{0, -1}, 2, 0},
		{"the only symbol, twice", weightsOf(20, []int64{0}, 0), []int64{-1}, []int64{0, 0, -1}, 2, 0},
	})
}

func TestThirdConditionOfKbo(t *testing.T) {
	checkWeighings(t, abc(), []weighing{
		{"a higher head", light(), []int64{1, 2}, []int64{0, 2, 2}, 3, 0},
		{"a higher head, with the same variable", light(), []int64{1, -1}, []int64{0, -1, 2}, 3, 0},
		{"a higher head, with one variable more", light(), []int64{1, -1}, []int64{0, -1, -2}, 3, 0},
		{"a higher head, the same weight by more numbers", weightsOf(1, []int64{0, 2, 3}, 1, 0, 2), []int64{1, 1, -1}, []int64{0, -1, 0, -1, 0, -1, 0, -1, -1}, 3, 0},
		{"a higher head, the same weight by fewer numbers", weightsOf(1, []int64{0, 2, 3}, 0, 1, 2), []int64{0, -1, 0, -1, -1}, []int64{1, -1}, 0, 0},
		{"a higher constant, the same weight by fewer numbers", weightsOf(1, []int64{0, 1, 3}, 0, 1, 2), []int64{1, 1, -1}, []int64{2}, 0, 0},
		{"a higher head with lesser arguments", even(), []int64{0, 1, 2, 2}, []int64{1, 0, 2, 2}, 3, 0},
		{"a higher head with the term inside", hollow(), []int64{0, 2, 2}, []int64{1, 0, 2, 2}, 3, 0},
		{"the highest unary symbol around a constant", hollow(), []int64{2}, []int64{1, 2}, 3, 0},
		{"the highest unary symbol 59 times around a constant", hollow(), []int64{2}, nested(60), 3, 0},
		{"a higher head, but another variable", light(), []int64{1, -1}, []int64{0, -2, 2}, 0, 0},
	})
	two := impl.Sig{Arity: []int64{0, 0, 0}}
	checkWeighings(t, two, []weighing{
		{"a higher constant", weightsOf(1, []int64{2, 2, 2}, 0, 2, 1), []int64{0}, []int64{2}, 3, 0},
		{"the highest constant", weightsOf(1, []int64{2, 2, 2}, 0, 2, 1), []int64{2}, []int64{1}, 3, 0},
		{"a higher constant that is lighter", weightsOf(1, []int64{3, 2, 2}, 0, 2, 1), []int64{1}, []int64{0}, 1, 0},
	})
}

func TestFourthConditionOfKbo(t *testing.T) {
	checkWeighings(t, abc(), []weighing{
		{"the first argument is heavier", light(), []int64{0, 2, 1, -1}, []int64{0, 1, -1, 2}, 4, 0},
		{"the first argument is heavier, the second one less", even(), []int64{0, 2, 1, 1, 2}, []int64{0, 1, 2, 1, 2}, 4, 0},
		{"the first argument has a higher head", even(), []int64{0, 0, 2, 2, 2}, []int64{0, 1, 1, 2, 2}, 4, 0},
		{"the first argument is a variable inside a symbol", hollow(), []int64{0, -1, 1, -1}, []int64{0, 1, -1, -1}, 4, 0},
		{"the first argument is greater by its argument", even(), []int64{0, 0, 2, 1, 2, 2}, []int64{0, 0, 1, 2, 2, 2}, 4, 0},
		{"the first arguments are the same", even(), []int64{0, 2, 0, 2, 2}, []int64{0, 2, 1, 1, 2}, 4, 0},
		{"the first arguments are the same variable", light(), []int64{0, -1, 0, 2, 1, -2}, []int64{0, -1, 0, 1, -2, 2}, 4, 0},
		{"the first arguments are long and the same", hollow(), []int64{0, 0, -1, 2, -2}, []int64{0, 0, -1, 2, 1, -2}, 4, 0},
		{"the first argument has another variable", light(), []int64{0, -1, 1, -2}, []int64{0, 1, -2, -1}, 0, 0},
		{"the first argument is heavier, but a variable is missing", light(), []int64{0, -1, 1, -2}, []int64{0, 1, -2, 2}, 0, 0},
		{"the first argument is heavier, but has other variables", light(), []int64{0, -1, 0, -2, -3}, []int64{0, 0, -3, -2, -1}, 0, 0},
		{"the first argument is a constant and a variable", light(), []int64{0, 2, -1}, []int64{0, -1, 2}, 0, 0},
		{"one argument", even(), []int64{1, 0, 2, 2}, []int64{1, 1, 1, 2}, 4, 0},
		{"one argument, 58 times", hollow(), append(nested(59)[:58], -1), append(nested(60)[:59], -1), 4, 0},
	})
	three, w := impl.Sig{Arity: []int64{3, 3, 0, 0, 0}}, weightsOf(1, []int64{0, 0, 2, 2, 1}, 4, 3, 2, 1, 0)
	checkWeighings(t, three, []weighing{
		{"the first two arguments are the same", w, []int64{0, -1, 4, 3}, []int64{0, -1, 4, 2}, 4, 0},
		{"the last two arguments are the same", w, []int64{0, 3, -1, 4}, []int64{0, 2, -1, 4}, 4, 0},
		{"only the first other argument counts", w, []int64{0, 4, 3, 2}, []int64{0, 4, 2, 3}, 4, 0},
		{"the first argument is lighter and the others are greater", w, []int64{0, 4, 2, 3}, []int64{0, 2, 3, 4}, 4, 0},
		{"the second argument can not be compared", w, []int64{0, 2, -1, 4}, []int64{0, 2, 4, -1}, 0, 0},
		{"the second argument can not be compared, the last one is greater", w, []int64{0, 4, -1, 3}, []int64{0, 4, 4, 2}, 0, 0},
		{"a lower head with greater arguments", w, []int64{1, 2, 2, 2}, []int64{0, 2, 2, 2}, 3, 0},
	})
}

// checkScale checks what the functions say of two trees in either order. At most one
// condition holds, so that the first one is the only one.
func checkScale(t *testing.T, sig impl.Sig, c scale, x, y tree) {
	t.Helper()
	for _, pair := range [][2]tree{{x, y}, {y, x}} {
		holds := c.conditions(pair[0], pair[1])
		if rest := slices.Index(holds, true) + 1; slices.Contains(holds[rest:], true) && rest > 0 {
			t.Fatal(sig, c, x.notation(), y.notation(), holds)
		}
		checkKbo(t, sig, c.Weights, pair[0].notation(), pair[1].notation(), c.why(pair[0], pair[1]))
	}
}

// All pairs of trees of few numbers.
func TestKboOfSmallTerms(t *testing.T) {
	held := [5]int{}
	for _, a := range weighedArenas(makerOf(78), []int64{-1, -2}, 4) {
		for i, x := range a.trees {
			for _, y := range a.trees[i:] {
				checkScale(t, a.sig, a.scale, x, y)
				held[a.scale.why(x, y)]++
				held[a.scale.why(y, x)]++
			}
		}
	}
	if slices.Min(held[:]) < 100 {
		t.Error("too few of the pairs test much", held)
	}
}

// Long trees that are much alike, so that the conditions are met deep inside.
func TestKboOfLongTerms(t *testing.T) {
	m, held := makerOf(79), [5]int{}
	check := func(sig impl.Sig, x, y tree) {
		if max(x.size(), y.size()) > impl.MaxTerm {
			return
		}
		c := scale{m.weights(sig)}
		checkScale(t, sig, c, x, y)
		held[c.why(x, y)]++
		held[c.why(y, x)]++
	}
	for i := range 1000 {
		z, _ := m.blur(i%2 == 0)
		check(z.sig, z.x, z.y)
	}
	for i := range 1000 {
		sig := m.book().sig
		x := m.tree(sig, 2+m.Int64N(59))
		at := m.spot(x)
		check(sig, x, x.put(at.path, m.tree(sig, 1+int64(i%9))))
		check(sig, x, x.put(at.path, at.sub.mirrored()))
		check(sig, x, m.recast(sig, x))
		check(sig, x, x.put(at.path, m.recast(sig, at.sub)))
		check(sig, m.gathered(sig, x), m.gathered(sig, x))
		check(sig, variable(20), wrapped(sig, 1+i%59, variable(20)))
	}
	if slices.Min(held[:]) < 100 {
		t.Error("too few of the pairs test much", held)
	}
}

// recast returns x with a head that has as many arguments.
func (m maker) recast(sig impl.Sig, x tree) tree {
	if x.head < 0 {
		return x
	}
	head := m.Int64N(int64(len(sig.Arity)))
	for sig.Arity[head] != sig.Arity[x.head] {
		head = m.Int64N(int64(len(sig.Arity)))
	}
	return tree{head: head, args: x.args}
}

// wrapped returns x inside so many of the first unary symbol.
func wrapped(sig impl.Sig, many int, x tree) tree {
	for range many {
		x = tree{head: int64(slices.Index(sig.Arity, 1)), args: []tree{x}}
	}
	return x
}

// Trees of MaxTerm numbers or nearly, nested as deeply as possible and much alike.
func TestKboOfDeepTerms(t *testing.T) {
	x, c := variable(0), tree{head: 2}
	trees := append(deepTrees(), x)
	for _, inside := range []tree{onTwo(onOne(c), c), onTwo(c, onOne(c)), onTwo(onOne(x), c), onTwo(c, onOne(x)), onOne(onTwo(c, c)), onOne(onTwo(c, x))} {
		row := inside
		for range 28 {
			row = onTwo(c, row)
		}
		trees = append(trees, tower(56, inside), tower(52, inside), row)
	}
	m, held := makerOf(80), [5]int{}
	weights := []impl.Weights{light(), hollow(), even()}
	for range 6 {
		weights = append(weights, m.weights(abc()))
	}
	for _, w := range weights {
		for i, x := range trees {
			for _, y := range trees[i:] {
				checkScale(t, abc(), scale{w}, x, y)
				held[scale{w}.why(x, y)]++
				held[scale{w}.why(y, x)]++
			}
		}
	}
	// A variable is met inside unary symbols only.
	if min(held[0], held[1], held[3], held[4]) < 100 || held[2] == 0 {
		t.Error("too few of the pairs test much", held)
	}
}
