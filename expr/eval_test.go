package expr_test

import (
	"fmt"
	"math"
	"slices"
	"testing"

	"testbench/api"
	"testbench/expr"
)

func signals(values map[string]int) []api.Signal {
	var list []api.Signal
	for name, value := range values {
		list = append(list, api.Signal{Name: name, Value: value})
	}
	return list
}

func checkEval(t *testing.T, e api.Expr, env []api.Signal, want int, wantErr api.Errno) {
	t.Helper()
	if got, err := expr.Eval(e, env); got != want || err != wantErr {
		t.Errorf("Eval(%s, %s) = %d, %d; want %d, %d", show(e), show(env), got, err, want, wantErr)
	}
}

// P8.6: one call or more for each row of the table of operators.
func TestEval(t *testing.T) {
	env := signals(map[string]int{"x": 256, "y": 3})
	x := variable("x")
	for _, c := range []struct {
		e    api.Expr
		want int
	}{
		{number(0), 0}, {number(65535), 65535}, {x, 256},
		{node(api.ExAdd, node(api.ExMul, x, number(256)), number(255)), 255},
		{numbers(api.ExNot, 0), 1}, {numbers(api.ExNot, 1), 0}, {numbers(api.ExNot, 2), 0}, {numbers(api.ExNot, 65535), 0},
		{numbers(api.ExInv, 0), 65535}, {numbers(api.ExInv, 65535), 0}, {numbers(api.ExInv, 1), 65534},
		{numbers(api.ExNeg, 0), 0}, {numbers(api.ExNeg, 1), 65535}, {numbers(api.ExNeg, 32768), 32768},
		{numbers(api.ExOnes, 0), 0}, {numbers(api.ExOnes, 65535), 16}, {numbers(api.ExOnes, 5), 2},
		{numbers(api.ExAdd, 65535, 2), 1}, {numbers(api.ExAdd, 3, 4), 7},
		{numbers(api.ExSub, 1, 2), 65535}, {numbers(api.ExSub, 7, 2), 5},
		{numbers(api.ExMul, 256, 256), 0}, {numbers(api.ExMul, 255, 257), 65535},
		{numbers(api.ExShl, 3, 15), 32768}, {numbers(api.ExShl, 1, 16), 0}, {numbers(api.ExShl, 1, 0), 1}, {numbers(api.ExShl, 1, 65535), 0},
		{numbers(api.ExShr, 32768, 15), 1}, {numbers(api.ExShr, 65535, 16), 0}, {numbers(api.ExShr, 7, 1), 3}, {numbers(api.ExShr, 7, 65535), 0},
		{numbers(api.ExAnd, 12, 10), 8}, {numbers(api.ExOr, 12, 10), 14}, {numbers(api.ExXor, 12, 10), 6},
		{numbers(api.ExEq, 5, 5), 1}, {numbers(api.ExEq, 5, 6), 0}, {numbers(api.ExNe, 5, 5), 0}, {numbers(api.ExNe, 5, 6), 1},
		{numbers(api.ExLt, 5, 6), 1}, {numbers(api.ExLt, 5, 5), 0}, {numbers(api.ExLt, 6, 5), 0}, {numbers(api.ExLt, 1, 65535), 1}, {numbers(api.ExLt, 65535, 1), 0},
		{numbers(api.ExLe, 5, 6), 1}, {numbers(api.ExLe, 5, 5), 1}, {numbers(api.ExLe, 6, 5), 0}, {numbers(api.ExLe, 32768, 32767), 0},
		{numbers(api.ExBoth, 2, 5), 1}, {numbers(api.ExBoth, 1, 2), 1}, {numbers(api.ExBoth, 0, 5), 0}, {numbers(api.ExBoth, 5, 0), 0}, {numbers(api.ExBoth, 0, 0), 0},
		{numbers(api.ExEither, 2, 5), 1}, {numbers(api.ExEither, 0, 5), 1}, {numbers(api.ExEither, 5, 0), 1}, {numbers(api.ExEither, 0, 0), 0},
		{numbers(api.ExImplies, 2, 5), 1}, {numbers(api.ExImplies, 0, 5), 1}, {numbers(api.ExImplies, 5, 0), 0}, {numbers(api.ExImplies, 0, 0), 1},
		{numbers(api.ExIf, 0, 7, 9), 9}, {numbers(api.ExIf, 1, 7, 9), 7}, {numbers(api.ExIf, 2, 7, 9), 7}, {numbers(api.ExIf, 65535, 0, 9), 0},
		{node(api.ExInside, variable("y"), x, number(300), number(3), number(3)), 1},
	} {
		checkEval(t, c.e, env, c.want, api.OK)
	}
}

// P8.6
func TestEvalInside(t *testing.T) {
	for _, c := range []struct {
		list []int
		want int
	}{
		{[]int{5, 7, 3}, 0}, {[]int{5, 3, 7}, 1}, {[]int{3, 3, 7}, 1}, {[]int{7, 3, 7}, 1}, {[]int{2, 3, 7}, 0}, {[]int{8, 3, 7}, 0}, {[]int{5, 5, 5}, 1},
		{[]int{7, 7, 3}, 0}, {[]int{3, 7, 3}, 0}, {[]int{0, 0, 65535}, 1}, {[]int{65535, 0, 65535}, 1}, {[]int{0, 1, 0}, 0},
		{[]int{5, 1, 2, 4, 6}, 1}, {[]int{5, 4, 6, 1, 2}, 1}, {[]int{3, 1, 2, 4, 6}, 0}, {[]int{5, 7, 3, 5, 5}, 1}, {[]int{5, 1, 2, 6, 4}, 0},
		{[]int{2, 1, 1, 3, 3}, 0}, {[]int{9, 1, 1, 2, 2, 3, 3, 9, 9, 5, 5}, 1},
	} {
		checkEval(t, numbers(api.ExInside, c.list...), nil, c.want, api.OK)
	}
	list := make([]int, 33)
	list[0] = 1
	checkEval(t, numbers(api.ExInside, list...), nil, 0, api.OK)
	list[32] = 1
	checkEval(t, numbers(api.ExInside, list...), nil, 1, api.OK)
}

// words has the borders of words and of their bytes, the numbers of bits, and some in between.
func words() []int {
	list := []int{100, 127, 128, 255, 256, 257, 1000, 4660, 21845, 32766, 32767, 32768, 32769, 43690, 51966, 65519, 65520, 65533, 65534, 65535}
	for n := range 20 {
		list = append(list, n)
	}
	return list
}

// P8.6: every operator with fixed operands, for all words at borders, against plain arithmetic.
func TestEvalOperators(t *testing.T) {
	check := func(op int, operands ...int) {
		t.Helper()
		checkEval(t, numbers(op, operands...), nil, modelResult(op, operands), api.OK)
	}
	for op, arity := range modelArity {
		switch {
		case op == api.ExInside || op == api.ExConst || op == api.ExVar || op == api.ExSum || op == api.ExElem:
		case arity == 1:
			for a := range 65536 {
				check(op, a)
			}
		default:
			for _, a := range words() {
				for _, b := range words() {
					check(op, slices.Repeat([]int{a, b}, 2)[:arity]...)
				}
			}
		}
	}
	for _, a := range words() {
		for _, b := range words() {
			for _, c := range words() {
				check(api.ExIf, a, b, c)
				check(api.ExInside, a, b, c)
			}
		}
	}
}

// P8.6: the first signal with the name counts, and its value is wrapped.
func TestEvalOfVariables(t *testing.T) {
	for value, want := range map[int]int{0: 0, 1: 1, 65535: 65535, 65536: 0, 65537: 1, -1: 65535, -65536: 0, -65537: 65535, math.MaxInt: 65535, math.MinInt: 0} {
		for _, name := range []string{"a", "a[0]", "a[7]", longName, longName + "[5]"} {
			checkEval(t, variable(name), []api.Signal{{Name: name, Value: value}}, want, api.OK)
			checkEval(t, variable(name), []api.Signal{{Name: "b", Value: 9}, {Name: name, Value: value}, {Name: name, Value: 77}}, want, api.OK)
		}
		elements := []api.Signal{{Name: "a[0]", Value: value}, {Name: "a[0]", Value: 77}}
		checkEval(t, sum("a"), elements, want, api.OK)
		checkEval(t, element("a", number(0)), elements, want, api.OK)
	}
}

// P8.6: a signal is found by its whole name only.
func TestEvalWithoutVariable(t *testing.T) {
	for _, other := range []string{"", "A", "b", "aa", "a[0]", "a ", " a", "a\x00"} {
		checkEval(t, variable("a"), []api.Signal{{Name: other, Value: 1}}, 0, api.ErrName)
	}
	for _, other := range []string{"a", "a[1]", "a[", "a[00]", "a[0] ", "b[0]"} {
		checkEval(t, variable("a[0]"), []api.Signal{{Name: other, Value: 1}}, 0, api.ErrName)
	}
	checkEval(t, variable("a"), nil, 0, api.ErrName)
	checkEval(t, variable("a"), []api.Signal{}, 0, api.ErrName)
	two := []api.Signal{{Name: "b", Value: 1}, {Name: "a", Value: 2}}
	checkEval(t, variable("a"), two[:1], 0, api.ErrName)
	checkEval(t, variable("a"), two, 2, api.OK)
}

// P8.6, example 3
func TestEvalOfArrays(t *testing.T) {
	env := signals(map[string]int{"a[0]": 4, "a[2]": 5, "x": 2, "b[0]": 65535, "b[1]": 2, "b[7]": 10, "b[8]": 100, "b[9]": 1000, "b[00]": 7, "b[01]": 7, "b[-1]": 7, "b[]": 7, "b": 7, "bb[1]": 7, "b[1": 7})
	checkEval(t, sum("a"), env, 9, api.OK)
	checkEval(t, sum("b"), env, 11, api.OK)
	for index, want := range map[int]int{0: 4, 1: 0, 2: 5, 3: 0, 7: 0, 8: 0, 9: 0, 65535: 0} {
		checkEval(t, element("a", number(index)), env, want, api.OK)
	}
	for index, want := range map[int]int{0: 65535, 1: 2, 2: 0, 6: 0, 7: 10, 8: 0, 9: 0, 10: 0, 65535: 0, 256: 0} {
		checkEval(t, element("b", number(index)), env, want, api.OK)
	}
	checkEval(t, element("a", variable("x")), env, 5, api.OK)
	checkEval(t, element("a", node(api.ExSub, variable("x"), number(3))), env, 0, api.OK)
	checkEval(t, element("a", element("b", number(1))), env, 5, api.OK)
	checkEval(t, variable("a[2]"), env, 5, api.OK)
	checkEval(t, variable("a[1]"), env, 0, api.ErrName)
	full := []api.Signal{}
	for i := range 8 {
		full = append(full, api.Signal{Name: fmt.Sprintf("%s[%d]", longName, i), Value: 1 << i})
		checkEval(t, sum(longName), full, 1<<(i+1)-1, api.OK)
		checkEval(t, element(longName, number(i)), full, 1<<i, api.OK)
	}
}

// P8.6: an array has the element 0, even if another one is asked for.
func TestEvalWithoutArray(t *testing.T) {
	for _, env := range [][]api.Signal{nil, {{Name: "a"}}, {{Name: "a[1]", Value: 5}}, {{Name: "a[00]"}}, {{Name: "b[0]"}}, {{Name: "a[0"}}} {
		checkEval(t, sum("a"), env, 0, api.ErrName)
		for _, index := range []int{0, 1, 7, 8, 65535} {
			checkEval(t, element("a", number(index)), env, 0, api.ErrName)
		}
	}
}

// P8.6: operands that do not matter for the value matter for the error.
func TestEvalOfAllOperands(t *testing.T) {
	env := signals(map[string]int{"x": 7, "d[0]": 1})
	for _, missing := range []api.Expr{variable("y"), sum("e"), element("e", number(0)), element("d", variable("y")), variable("d[1]"), sum("x")} {
		for _, e := range []api.Expr{
			node(api.ExBoth, number(0), missing),
			node(api.ExEither, number(1), missing),
			node(api.ExImplies, number(0), missing),
			node(api.ExIf, number(1), number(2), missing),
			node(api.ExIf, number(0), missing, number(2)),
			node(api.ExIf, missing, number(2), number(2)),
			node(api.ExMul, number(0), missing),
			node(api.ExInside, number(1), number(1), number(1), missing, number(3)),
			node(api.ExInside, number(1), number(1), number(1), number(2), missing),
			node(api.ExAdd, missing, variable("x")),
			node(api.ExAdd, variable("x"), missing),
			chain(20, missing),
		} {
			checkEval(t, e, env, 0, api.ErrName)
		}
	}
}

// P8.6: an expression that is not valid has no value, whatever the error of Valid is.
func TestEvalOfInvalidExpressions(t *testing.T) {
	env := signals(map[string]int{"a": 1, "A": 2, "in": 3, "a[8]": 4, "": 5, "A[0]": 6, "[0]": 7})
	for _, e := range []api.Expr{
		{}, {Op: 26}, number(-1), number(65536), variable("A"), variable("in"), variable("a[8]"), variable(""), sum("A"), sum(""), element("A", number(0)),
		numbers(api.ExAdd, 1), numbers(api.ExAdd, 1, 2, 3), numbers(api.ExInside, 1), numbers(api.ExInside, 1, 2), numbers(api.ExInside, make([]int, 35)...), numbers(api.ExIf, 1, 2), numbers(api.ExNot),
		{Op: api.ExVar, Name: "a", N: 1}, {Op: api.ExVar, Name: "a", Args: []api.Expr{number(1)}}, {Op: api.ExConst, Name: "a"},
		chain(24, number(1)), sized(401), chain(levels-1, number(1)), sized(5000),
		// ErrArg comes before ErrName.
		node(api.ExAdd, variable("missing"), variable("A")), chain(24, variable("missing")), node(api.ExNot, variable("missing"), number(1)),
	} {
		checkEval(t, e, env, 0, api.ErrArg)
		checkEval(t, e, nil, 0, api.ErrArg)
	}
	checkEval(t, chain(23, number(1)), nil, 65534, api.OK)
	checkEval(t, sized(400), env, expected(sized(400), env), api.OK)
}

func expected(e api.Expr, env []api.Signal) int {
	value, _ := modelEval(e, env)
	return value
}

// P8.6: what lies behind the length of a list is neither used nor changed (0.4, 0.8).
func TestEvalOfRandomExpressions(t *testing.T) {
	m := newMaker(7)
	values, errors := map[int]bool{}, map[api.Errno]int{}
	for range 2000 {
		for _, e := range []api.Expr{m.expr(5), m.expr(2), m.constant(4), m.spoiled(5)} {
			all := m.signals()
			env := all[:len(all)-min(len(all), 1)]
			before := slices.Clone(all)
			crowded := roomy(e)
			want, err := modelEval(e, env)
			checkEval(t, crowded, env, want, err)
			checkRoom(t, crowded, e)
			if !slices.Equal(all, before) {
				t.Fatalf("Eval(%s, %v) has changed the signals to %v", show(e), before, all)
			}
			values[want] = true
			errors[err]++
		}
	}
	if len(values) < 300 || errors[api.OK] < 1000 || errors[api.ErrName] < 300 || errors[api.ErrArg] < 300 {
		t.Errorf("there were %d values, and the errors %v", len(values), errors)
	}
}

func checkFold(t *testing.T, e, want api.Expr) {
	t.Helper()
	crowded := roomy(e)
	got := expr.Fold(crowded)
	if !equal(got, want) {
		t.Errorf("Fold(%s) = %s; want %s", show(e), show(got), show(want))
	}
	checkNew(t, got, crowded)
	checkRoom(t, crowded, e)
}

// P8.7
func TestFold(t *testing.T) {
	x := variable("x")
	three := numbers(api.ExAdd, 1, 2)
	for _, c := range []struct{ e, want api.Expr }{
		{node(api.ExMul, three, x), node(api.ExMul, number(3), x)},
		{number(7), number(7)},
		{x, x},
		{sum("d"), sum("d")},
		{three, number(3)},
		{numbers(api.ExSub, 1, 2), number(65535)},
		{node(api.ExNot, three), number(0)},
		{node(api.ExNot, x), node(api.ExNot, x)},
		{chain(23, number(1)), number(65534)},
		{chain(23, x), chain(23, x)},
		{node(api.ExAdd, three, three), number(6)},
		{node(api.ExAdd, x, three), node(api.ExAdd, x, number(3))},
		{node(api.ExAdd, node(api.ExAdd, x, number(1)), number(2)), node(api.ExAdd, node(api.ExAdd, x, number(1)), number(2))},
		// The value of an array's element is not known, even if its index is.
		{element("d", three), element("d", number(3))},
		{element("d", number(3)), element("d", number(3))},
		{node(api.ExAdd, element("d", three), three), node(api.ExAdd, element("d", number(3)), number(3))},
		{node(api.ExAdd, sum("d"), three), node(api.ExAdd, sum("d"), number(3))},
		// Operands that do not matter for the value keep a node as it is.
		{node(api.ExIf, number(1), number(2), x), node(api.ExIf, number(1), number(2), x)},
		{node(api.ExIf, three, three, x), node(api.ExIf, number(3), number(3), x)},
		{node(api.ExMul, number(0), x), node(api.ExMul, number(0), x)},
		{node(api.ExBoth, number(0), x), node(api.ExBoth, number(0), x)},
		{node(api.ExSub, x, x), node(api.ExSub, x, x)},
		{numbers(api.ExIf, 0, 2, 3), number(3)},
		{numbers(api.ExInside, 5, 7, 3), number(0)},
		{numbers(api.ExInside, 5, 7, 3, 5, 5), number(1)},
		{node(api.ExInside, x, three, number(5)), node(api.ExInside, x, number(3), number(5))},
		{node(api.ExInside, number(1), number(1), number(1), x, number(5)), node(api.ExInside, number(1), number(1), number(1), x, number(5))},
	} {
		checkFold(t, c.e, c.want)
	}
	for op, arity := range modelArity {
		if op != api.ExConst && op != api.ExVar && op != api.ExElem && op != api.ExSum {
			operands := []int{9, 5, 12}[:max(arity, 1)]
			if op == api.ExInside {
				operands = []int{9, 5, 12}
			}
			checkFold(t, numbers(op, operands...), number(modelResult(op, operands)))
		}
	}
}

// P8.7: an expression that is not valid stays as it is, with everything in it.
func TestFoldOfInvalidExpressions(t *testing.T) {
	three := numbers(api.ExAdd, 1, 2)
	for _, e := range []api.Expr{
		{}, {Op: 26, N: 7, Name: "x"}, number(-1), number(65536), variable("A"),
		node(api.ExAdd, three, variable("A")), node(api.ExAdd, three, number(-1)), node(api.ExAdd, three), node(26, three), node(api.ExAdd, three, three, three),
		{Op: api.ExVar, Name: "a", Args: []api.Expr{three}}, {Op: api.ExNot, Name: "a", Args: []api.Expr{three}}, {Op: api.ExNot, N: 1, Args: []api.Expr{three}},
		element("A", three), element("d[0]", three), {Op: api.ExSum, Name: "d", Args: []api.Expr{three}},
		chain(24, number(1)), chain(30, three), sized(401), node(api.ExAdd, three, sized(400)),
	} {
		checkFold(t, e, e)
	}
	deep := chain(levels-1, number(1))
	if got := expr.Fold(deep); !expr.Same(got, deep) {
		t.Errorf("an expression with %d levels has not stayed as it is", levels)
	}
}

// P8.7
func TestFoldOfRandomExpressions(t *testing.T) {
	m := newMaker(8)
	for range 2000 {
		for _, e := range []api.Expr{m.expr(5), m.constant(4), m.spoiled(5), m.changed(m.expr(5), 2, m.settle)} {
			checkFold(t, e, modelFold(e))
		}
	}
}

// settle makes a variable or the sum of an array a number.
func (m maker) settle(part *api.Expr) {
	if len(part.Args) == 0 {
		*part = number(m.word())
	}
}

// C8.1
func TestFoldKeepsValues(t *testing.T) {
	m := newMaker(9)
	for range 2000 {
		for _, e := range []api.Expr{m.expr(5), m.spoiled(4), m.changed(m.expr(5), 2, m.settle)} {
			folded := expr.Fold(e)
			for range 3 {
				env := m.signals()
				value, err := expr.Eval(e, env)
				checkEval(t, folded, env, value, err)
			}
			if expr.Valid(folded) != expr.Valid(e) {
				t.Errorf("Valid(%s) = %d, Valid(%s) = %d", show(e), expr.Valid(e), show(folded), expr.Valid(folded))
			}
			checkFold(t, folded, folded)
		}
	}
}

// C8.2: a variable that is no element is replaced, so that arrays stay the same.
func TestSubstKeepsValues(t *testing.T) {
	m := newMaker(10)
	compared := 0
	for range 5000 {
		e, by, name, env := m.expr(4), m.expr(3), pick(m, "a", "b", "x1", longName), m.signals()
		value, err := expr.Eval(by, env)
		replaced := expr.Subst(e, name, by)
		if err != api.OK || expr.Valid(replaced) != api.OK || !slices.Contains(expr.Names(e), name) {
			continue
		}
		compared++
		want, err := expr.Eval(e, append([]api.Signal{{Name: name, Value: value}}, env...))
		checkEval(t, replaced, env, want, err)
	}
	if compared < 500 {
		t.Errorf("only %d expressions were compared", compared)
	}
}

// C8.3: all names of a valid expression are needed for its value, and no others.
func TestEvalWithAllNames(t *testing.T) {
	m := newMaker(11)
	for range 2000 {
		e := m.expr(5)
		if expr.Valid(e) != api.OK {
			continue
		}
		var env []api.Signal
		needed := expr.Names(e)
		for _, array := range expr.Arrays(e) {
			needed = append(needed, array+"[0]")
		}
		for _, name := range needed {
			env = append(env, api.Signal{Name: name, Value: m.word()})
		}
		checkEval(t, e, env, expected(e, env), api.OK)
		for _, name := range needed {
			others := slices.DeleteFunc(slices.Clone(env), func(s api.Signal) bool { return s.Name == name })
			checkEval(t, e, others, 0, api.ErrName)
		}
	}
}
