package exprtext_test

import (
	"slices"
	"strings"
	"testing"

	"testbench/api"
	"testbench/expr"
	"testbench/exprtext"
)

const levels = 1 << 16 // of the deepest nesting for which the document promises anything

func checkPrint(t *testing.T, e api.Expr, want string) {
	t.Helper()
	if got := exprtext.Print(e); got != want {
		t.Errorf("Print(%s) = %q; want %q", show(e), got, want)
	}
}

// P9.1: each operator, and each place of an operand.
func TestPrint(t *testing.T) {
	a, b, c := variable("a"), variable("b"), variable("c")
	for want, e := range map[string]api.Expr{
		"0": number(0), "65535": number(65535), "a": a, "sum": variable("sum"), "ones": variable("ones"), longName: variable(longName),
		"a@0": variable("a[0]"), "a@7": variable("a[7]"), "sum@3": variable("sum[3]"), longName + "@1": variable(longName + "[1]"),
		"a[b]": element("a", b), "sum[0]": element("sum", number(0)), "ones[a[1]]": element("ones", element("a", number(1))), "d@2": variable("d[2]"),
		"sum(a)": total("a"), "sum(sum)": total("sum"), "sum(ones)": total("ones"), "ones(a)": node(api.ExOnes, a), "ones(sum)": node(api.ExOnes, variable("sum")),
		"!a": node(api.ExNot, a), "~a": node(api.ExInv, a), "-a": node(api.ExNeg, a), "-1": node(api.ExNeg, number(1)),
		"a + b": node(api.ExAdd, a, b), "a - b": node(api.ExSub, a, b), "a * b": node(api.ExMul, a, b), "a & b": node(api.ExAnd, a, b), "a | b": node(api.ExOr, a, b), "a ^ b": node(api.ExXor, a, b),
		"a << b": node(api.ExShl, a, b), "a >> b": node(api.ExShr, a, b), "a == b": node(api.ExEq, a, b), "a != b": node(api.ExNe, a, b), "a < b": node(api.ExLt, a, b), "a <= b": node(api.ExLe, a, b),
		"a && b": node(api.ExBoth, a, b), "a || b": node(api.ExEither, a, b), "a => b": node(api.ExImplies, a, b), "a ? b : c": node(api.ExIf, a, b, c),
		"a inside { b .. c }": node(api.ExInside, a, b, c), "a inside { 1 .. 3, 5 .. 5 }": node(api.ExInside, a, number(1), number(3), number(5), number(5)),
		"a inside { 1 .. 3, 5 .. 5, b .. -c }": node(api.ExInside, a, number(1), number(3), number(5), number(5), b, node(api.ExNeg, c)),
	} {
		checkPrint(t, e, want)
	}
}

// P9.1: parentheses are written where the level of the operand is too low, and nowhere else.
func TestPrintParentheses(t *testing.T) {
	a, b, c, d, x := variable("a"), variable("b"), variable("c"), variable("d"), variable("e")
	choice, implies, set := node(api.ExIf, a, b, c), node(api.ExImplies, a, b), node(api.ExInside, a, number(1), number(2))
	sum, difference, product, minus := node(api.ExAdd, a, b), node(api.ExSub, a, b), node(api.ExMul, a, b), node(api.ExNeg, a)
	less, equals, both, either := node(api.ExLt, a, b), node(api.ExEq, a, b), node(api.ExBoth, a, b), node(api.ExEither, a, b)
	for want, e := range map[string]api.Expr{
		"a ? b : c ? d : e": node(api.ExIf, a, b, node(api.ExIf, c, d, x)), "a ? b ? c : d : e": node(api.ExIf, a, node(api.ExIf, b, c, d), x), "(a ? b : c) ? d : e": node(api.ExIf, choice, d, x),
		"a => b ? c : d": node(api.ExIf, implies, c, d), "d ? a => b : a => b": node(api.ExIf, d, implies, implies),
		"d => (a ? b : c)": node(api.ExImplies, d, choice), "(a ? b : c) => d": node(api.ExImplies, choice, d), "d => a => b": node(api.ExImplies, d, implies), "(a => b) => d": node(api.ExImplies, implies, d), "a || b => a && b": node(api.ExImplies, either, both),
		"a || b || c": node(api.ExEither, either, c), "c || (a || b)": node(api.ExEither, c, either), "a && b || a && b": node(api.ExEither, both, both), "(a || b) && (a || b)": node(api.ExBoth, either, either), "(a => b) || c": node(api.ExEither, implies, c), "c || (a => b)": node(api.ExEither, c, implies),
		"a == b == c": node(api.ExEq, equals, c), "c == (a == b)": node(api.ExEq, c, equals), "a == b != c": node(api.ExNe, equals, c), "a < b == c": node(api.ExEq, less, c), "c == a < b": node(api.ExEq, c, less), "(a == b) < c": node(api.ExLt, equals, c), "c < (a == b)": node(api.ExLt, c, equals),
		"a < b < c": node(api.ExLt, less, c), "c < (a < b)": node(api.ExLt, c, less), "a < b <= c": node(api.ExLe, less, c), "a inside { 1 .. 2 } < c": node(api.ExLt, set, c), "c < (a inside { 1 .. 2 })": node(api.ExLt, c, set),
		"a inside { 1 .. 2 } inside { b .. c }": node(api.ExInside, set, b, c), "a < b inside { b .. c }": node(api.ExInside, less, b, c), "(a == b) inside { b .. c }": node(api.ExInside, equals, b, c), "a + b inside { b .. c }": node(api.ExInside, sum, b, c),
		"d inside { a ? b : c .. a => b, a inside { 1 .. 2 } .. a == b }": node(api.ExInside, d, choice, implies, set, equals), "!(a inside { 1 .. 2 })": node(api.ExNot, set), "a inside { 1 .. 2 } ? b : c": node(api.ExIf, set, b, c),
		"a - b - c": node(api.ExSub, difference, c), "c - (a - b)": node(api.ExSub, c, difference), "a - b + c": node(api.ExAdd, difference, c), "c - (a + b)": node(api.ExSub, c, sum), "c + (a + b)": node(api.ExAdd, c, sum),
		"a * b + a * b": node(api.ExAdd, product, product), "(a + b) * c": node(api.ExMul, sum, c), "c * (a + b)": node(api.ExMul, c, sum), "a * b * c": node(api.ExMul, product, c), "c * (a * b)": node(api.ExMul, c, product), "a + b << a + b": node(api.ExShl, sum, sum), "(a << b) + c": node(api.ExAdd, node(api.ExShl, a, b), c), "c >> (a << b)": node(api.ExShr, c, node(api.ExShl, a, b)),
		"a | b ^ c & d": node(api.ExOr, a, node(api.ExXor, b, node(api.ExAnd, c, d))), "((a | b) ^ c) & d": node(api.ExAnd, node(api.ExXor, node(api.ExOr, a, b), c), d), "a & b == c": node(api.ExAnd, a, node(api.ExEq, b, c)), "(a & b) == c": node(api.ExEq, node(api.ExAnd, a, b), c),
		"--a": node(api.ExNeg, minus), "!~-a": node(api.ExNot, node(api.ExInv, minus)), "-a * -a": node(api.ExMul, minus, minus), "-(a * b)": node(api.ExNeg, product), "c - -a": node(api.ExSub, c, minus), "~(a ? b : c)": node(api.ExInv, choice), "-ones(-a)": node(api.ExNeg, node(api.ExOnes, minus)), "-a[-a]": node(api.ExNeg, element("a", minus)),
		"d[a ? b : c]": element("d", choice), "ones(a ? b : c)": node(api.ExOnes, choice), "d[a + b] + ones(a => b)": node(api.ExAdd, element("d", sum), node(api.ExOnes, implies)), "a[a@1] - sum(a)": node(api.ExSub, element("a", variable("a[1]")), total("a")),
	} {
		checkPrint(t, e, want)
	}
}

// P9.1: each operator in each place of each other one.
func TestPrintOfAllPairs(t *testing.T) {
	a := variable("a")
	list := []api.Expr{a, number(5), total("d"), element("d", a), node(api.ExInside, a, a, a), node(api.ExInside, a, a, a, a, a)}
	for op := api.ExNot; op <= api.ExOnes; op++ {
		if arity := expr.Arity(op); arity > 0 {
			list = append(list, node(op, slices.Repeat([]api.Expr{a}, arity)...))
		}
	}
	for _, outer := range list {
		for place := range outer.Args {
			for _, inner := range list {
				e := outer
				e.Args = slices.Clone(outer.Args)
				e.Args[place] = inner
				checkPrint(t, e, modelPrint(e))
			}
		}
	}
}

// P9.1
func TestPrintOfRandomExpressions(t *testing.T) {
	m := newMaker(1)
	for range 300 {
		e := m.expression()
		checkPrint(t, e, modelPrint(e))
	}
}

// P9.1: what is not valid has no text.
func TestPrintOfWhatIsNotValid(t *testing.T) {
	a := variable("a")
	deep := a
	for range api.MaxDepth {
		deep = node(api.ExNeg, deep)
	}
	deepest := a
	for range levels - 1 {
		deepest = node(api.ExNeg, deepest)
	}
	wide := node(api.ExInside, slices.Repeat([]api.Expr{a}, 33)...)
	for _, e := range []api.Expr{
		{}, {Op: 26}, {Op: -1}, {Op: api.ExConst, Name: "a"}, number(-1), number(65536), variable(""), variable("A"), variable("if"), variable("a[8]"), variable("a@1"), variable("a[0"), variable("a b"), total("a[0]"), total("in"), element("", a), element("a[0]", a),
		node(api.ExAdd, a), node(api.ExAdd, a, a, a), node(api.ExNot), node(api.ExIf, a, a), node(api.ExInside, a, a), node(api.ExInside, a), node(api.ExInside, a, a, a, a), node(api.ExInside, slices.Repeat([]api.Expr{a}, 35)...),
		{Op: api.ExVar, Name: "a", N: 1}, {Op: api.ExVar, Name: "a", Args: []api.Expr{a}}, {Op: api.ExNeg, Name: "a", Args: []api.Expr{a}}, node(api.ExAdd, a, variable("A")), node(api.ExAdd, a, node(api.ExNeg, number(70000))),
		deep, deepest, node(api.ExIf, slices.Repeat([]api.Expr{node(api.ExInside, append([]api.Expr{wide, wide, wide, wide, wide}, wide.Args[5:]...)...)}, 3)...),
	} {
		checkPrint(t, e, "")
	}
	checkPrint(t, deep.Args[0], strings.Repeat("-", api.MaxDepth-1)+"a")
	checkPrint(t, wide, "a inside { a .. a"+strings.Repeat(", a .. a", 15)+" }")
}

// P9.1: what lies behind the operands is not used, and nothing is changed.
func TestPrintUsesOperandsOnly(t *testing.T) {
	m := newMaker(2)
	for range 200 {
		e := m.expression()
		crowded := roomy(e)
		checkPrint(t, crowded, exprtext.Print(e))
		if !equal(crowded, e) {
			t.Errorf("%s has changed to %s", show(e), show(crowded))
		}
		for _, part := range nodesOf(crowded) {
			count := len(part.Args)
			if behind := part.Args[:count+1][count]; !equal(behind, api.Expr{Op: -1}) {
				t.Errorf("what lies behind the operands has changed to %s", show(behind))
			}
		}
	}
}

// roomy returns a copy of e in which an invalid expression lies behind the operands of each node.
func roomy(e api.Expr) api.Expr {
	var args []api.Expr
	for _, arg := range e.Args {
		args = append(args, roomy(arg))
	}
	e.Args = append(args, api.Expr{Op: -1})[:len(args)]
	return e
}
