package expr_test

import (
	"fmt"
	"math"
	"slices"
	"testing"

	"testbench/api"
	"testbench/expr"
)

const levels = 1 << 16 // of the deepest expression for which the document promises anything

// operators has all operators, numbers beside them, and numbers far away.
func operators() []int {
	list := []int{math.MinInt, -1 << 32, -26, math.MaxInt, 1 << 32, 1<<32 + 1, 1<<8 + 1, 1<<16 + 2}
	for op := -5; op <= 40; op++ {
		list = append(list, op)
	}
	return list
}

// P8.1
func TestArity(t *testing.T) {
	for op, want := range map[int]int{
		api.ExConst: 0, api.ExVar: 0, api.ExSum: 0,
		api.ExElem: 1, api.ExNot: 1, api.ExInv: 1, api.ExNeg: 1, api.ExOnes: 1,
		api.ExAdd: 2, api.ExSub: 2, api.ExMul: 2, api.ExAnd: 2, api.ExOr: 2, api.ExXor: 2, api.ExShl: 2, api.ExShr: 2,
		api.ExEq: 2, api.ExNe: 2, api.ExLt: 2, api.ExLe: 2, api.ExBoth: 2, api.ExEither: 2, api.ExImplies: 2,
		api.ExIf: 3, api.ExInside: -1, 0: -1, 26: -1, -1: -1,
	} {
		if got := expr.Arity(op); got != want {
			t.Errorf("Arity(%d) = %d; want %d", op, got, want)
		}
	}
	for _, op := range operators() {
		want, known := modelArity[op]
		if !known {
			want = -1
		}
		if got := expr.Arity(op); got != want {
			t.Errorf("Arity(%d) = %d; want %d", op, got, want)
		}
	}
}

func checkValid(t *testing.T, e api.Expr, want api.Errno) {
	t.Helper()
	if got := expr.Valid(e); got != want {
		t.Errorf("Valid(%s) = %d; want %d", show(e), got, want)
	}
}

// P8.2: every operator with every number of operands.
func TestValidOperands(t *testing.T) {
	for _, op := range operators() {
		for count := range 40 {
			e := numbers(op, make([]int, count)...)
			if op == api.ExVar || op == api.ExElem || op == api.ExSum {
				e.Name = "a"
			}
			arity, known := modelArity[op]
			want := api.ErrArg
			if known && count == arity || op == api.ExInside && count >= 3 && count <= 33 && count%2 == 1 {
				want = api.OK
			}
			checkValid(t, e, want)
			checkValid(t, node(api.ExNot, e), want)
		}
	}
	checkValid(t, api.Expr{}, api.ErrArg)
	checkValid(t, api.Expr{Op: api.ExConst, Args: []api.Expr{}}, api.OK)
	checkValid(t, numbers(api.ExInside, make([]int, 33+32)...), api.ErrArg)
}

// P8.2
func TestValidNumbers(t *testing.T) {
	for _, n := range []int{0, 1, 2, 255, 256, 65534, 65535} {
		checkValid(t, number(n), api.OK)
	}
	for _, n := range []int{-1, -2, -65535, -65536, math.MinInt, 65536, 65537, 1 << 32, math.MaxInt} {
		checkValid(t, number(n), api.ErrArg)
		checkValid(t, node(api.ExAdd, number(0), number(n)), api.ErrArg)
	}
	for op, arity := range modelArity {
		e := numbers(op, make([]int, max(arity, 0))...)
		switch op {
		case api.ExConst:
			continue
		case api.ExVar, api.ExElem, api.ExSum:
			e.Name = "a"
		case api.ExInside:
			e = numbers(op, 1, 2, 3)
		}
		checkValid(t, e, api.OK)
		for _, n := range []int{1, -1, 65535, 65536, math.MinInt, math.MaxInt} {
			e.N = n
			checkValid(t, e, api.ErrArg)
		}
	}
}

// wrongNames are neither names nor element names.
func wrongNames() []string {
	list := []string{
		"", " ", "A", "Ab", "_", "_a", "0", "1a", "a ", " a", "a.b", "a-b", "é", "aé", "\xff", "a\x00", "a\n", "a123456789_BCDEFG",
		"[", "]", "[]", "[0]", "a[", "a]", "a[]", "a[0", "a0]", "a[8]", "a[9]", "a[10]", "a[00]", "a[01]", "a[07]", "a[-1]", "a[-0]", "a[+1]",
		"a[ 1]", "a[1 ]", "a [1]", "a[1] ", " a[1]", "a[1]]", "a[[1]", "a[[1]]", "a[0][1]", "a[b]", "a[/]", "a[:]", "a[0x1]", "a[१]", "a@0", "a(0)", "a{0}",
		"A[0]", "_a[0]", "1[0]", "in[0]", "class[7]", "repeat[3]", "a123456789_BCDEFG[0]", "a[70]", "a[0]0", "a[0", "a]0[", "a[0]a", "a[0]\n", "a\n[0]", "a[8589934592]",
	}
	for _, keyword := range modelWords {
		list = append(list, keyword, keyword+"[0]")
	}
	return list
}

// P8.2
func TestValidNames(t *testing.T) {
	names := []string{"a", "z", "x1", "aZ", "a_", "zZ_09", longName, "sum", "ones", "classes", "i", "iff"}
	for _, name := range names {
		checkValid(t, variable(name), api.OK)
		checkValid(t, sum(name), api.OK)
		checkValid(t, element(name, number(0)), api.OK)
		for i := range 8 {
			indexed := fmt.Sprintf("%s[%d]", name, i)
			checkValid(t, variable(indexed), api.OK)
			// Only a variable has the name of an element.
			checkValid(t, sum(indexed), api.ErrName)
			checkValid(t, element(indexed, number(0)), api.ErrName)
		}
	}
	for _, name := range wrongNames() {
		checkValid(t, variable(name), api.ErrName)
		checkValid(t, sum(name), api.ErrName)
		checkValid(t, element(name, number(0)), api.ErrName)
	}
}

// P8.2: the names of variables, for all indexes of one and two bytes.
func TestValidIndexes(t *testing.T) {
	for i := range 256 {
		first := string([]byte{byte(i)})
		for j := -1; j < 256; j++ {
			index := first
			if j >= 0 {
				index += string([]byte{byte(j)})
			}
			want := api.ErrName
			if len(index) == 1 && index >= "0" && index <= "7" {
				want = api.OK
			}
			checkValid(t, variable("x["+index+"]"), want)
		}
	}
}

// P8.2: a node that has no use for a name has none.
func TestValidNamesElsewhere(t *testing.T) {
	for op, arity := range modelArity {
		if op == api.ExVar || op == api.ExElem || op == api.ExSum {
			continue
		}
		if op == api.ExInside {
			arity = 5
		}
		e := numbers(op, make([]int, arity)...)
		for _, name := range []string{"a", "a[0]", "A", " ", "in", "\x00"} {
			e.Name = name
			checkValid(t, e, api.ErrArg)
		}
	}
}

// P8.2: the first node in the order of the nodes tells the error; within a node, ErrArg comes first.
func TestValidOrder(t *testing.T) {
	unnamed, unknown := variable("A"), api.Expr{Op: 26}
	for _, c := range []struct {
		e    api.Expr
		want api.Errno
	}{
		{node(api.ExAdd, unnamed, unknown), api.ErrName},
		{node(api.ExAdd, unknown, unnamed), api.ErrArg},
		{node(api.ExAdd, number(1), unnamed), api.ErrName},
		{node(api.ExAdd, node(api.ExNot, unnamed), unknown), api.ErrName},
		{node(api.ExAdd, node(api.ExNot, unknown), unnamed), api.ErrArg},
		{node(api.ExAdd, node(api.ExNot, number(1)), node(api.ExNot, unnamed)), api.ErrName},
		{element("A", unknown), api.ErrName},
		{element("A", unnamed), api.ErrName},
		{element("a", unnamed), api.ErrName},
		{element("a", unknown), api.ErrArg},
		{node(26, unnamed), api.ErrArg},
		{node(api.ExNot, unnamed, unnamed), api.ErrArg},
		{node(api.ExInside, unnamed, number(1)), api.ErrArg},
		{node(api.ExInside, number(1), number(2), number(3), unnamed, unknown), api.ErrName},
		{node(api.ExInside, number(1), number(2), number(3), number(4), unknown), api.ErrArg},
		{node(api.ExIf, number(1), number(2), unknown), api.ErrArg},
		{node(api.ExIf, number(1), number(2), unnamed), api.ErrName},
		{api.Expr{Op: api.ExVar, Name: "A", N: 1}, api.ErrArg},
		{api.Expr{Op: api.ExVar, Name: "A", Args: []api.Expr{number(1)}}, api.ErrArg},
		{api.Expr{Op: api.ExVar, Name: "a", Args: []api.Expr{unnamed}}, api.ErrArg},
		{api.Expr{Op: api.ExSum, Name: "A", Args: []api.Expr{number(1)}}, api.ErrArg},
		{api.Expr{Op: api.ExSum, Name: "A", N: -1}, api.ErrArg},
		{api.Expr{Op: api.ExElem, Name: "A"}, api.ErrArg},
		{api.Expr{Op: api.ExElem, Name: "a[0]", N: 7, Args: []api.Expr{number(1)}}, api.ErrArg},
		{api.Expr{Op: 26, Name: "A"}, api.ErrArg},
	} {
		checkValid(t, c.e, c.want)
	}
}

// sized returns a valid expression with so many nodes, in a few levels.
func sized(nodes int) api.Expr {
	switch {
	case nodes == 1:
		return variable("a")
	case nodes%2 == 0:
		return node(api.ExNeg, sized(nodes-1))
	}
	left := nodes / 2
	return node(api.ExAdd, sized(left), sized(nodes-1-left))
}

// P8.2: what is too large has no error in a node.
func TestValidLimits(t *testing.T) {
	for _, nodes := range []int{1, 2, 3, 100, 399, 400} {
		checkValid(t, sized(nodes), api.OK)
	}
	for _, nodes := range []int{401, 402, 500, 5000} {
		checkValid(t, sized(nodes), api.ErrLimit)
	}
	for _, leaf := range []api.Expr{number(7), variable("a"), sum("a")} {
		checkValid(t, chain(22, leaf), api.OK)
		checkValid(t, chain(23, leaf), api.OK)
		checkValid(t, chain(24, leaf), api.ErrLimit)
		checkValid(t, chain(levels-1, leaf), api.ErrLimit)
		checkValid(t, node(api.ExIf, number(1), chain(22, leaf), number(2)), api.OK)
		checkValid(t, node(api.ExIf, number(1), chain(23, leaf), number(2)), api.ErrLimit)
	}
	for _, c := range []struct {
		wrong api.Expr
		want  api.Errno
	}{{variable("A"), api.ErrName}, {number(-1), api.ErrArg}, {api.Expr{}, api.ErrArg}, {sum("in"), api.ErrName}} {
		checkValid(t, chain(24, c.wrong), c.want)
		checkValid(t, chain(levels-1, c.wrong), c.want)
		checkValid(t, node(api.ExAdd, sized(399), c.wrong), c.want)
		checkValid(t, node(api.ExAdd, sized(5000), c.wrong), c.want)
		checkValid(t, node(api.ExAdd, chain(30, number(1)), c.wrong), c.want)
	}
}

// P8.2
func TestValidOfRandomExpressions(t *testing.T) {
	m := newMaker(2)
	for range 2000 {
		for _, e := range []api.Expr{m.expr(5), m.spoiled(5)} {
			crowded := roomy(e)
			checkValid(t, crowded, modelValid(e))
			checkRoom(t, crowded, e)
		}
	}
}

func checkSize(t *testing.T, e api.Expr, size, depth int) {
	t.Helper()
	if got := expr.Size(e); got != size {
		t.Errorf("Size(%s) = %d; want %d", show(e), got, size)
	}
	if got := expr.Depth(e); got != depth {
		t.Errorf("Depth(%s) = %d; want %d", show(e), got, depth)
	}
}

// P8.3
func TestSizeAndDepth(t *testing.T) {
	a := variable("a")
	checkSize(t, a, 1, 1)
	checkSize(t, number(5), 1, 1)
	checkSize(t, node(api.ExNot, a), 2, 2)
	checkSize(t, node(api.ExAdd, a, a), 3, 2)
	checkSize(t, element("d", node(api.ExAdd, a, number(1))), 4, 3)
	checkSize(t, node(api.ExIf, node(api.ExNot, node(api.ExNot, a)), a, a), 6, 4)
	checkSize(t, node(api.ExIf, a, a, node(api.ExNot, a)), 5, 3)
	checkSize(t, numbers(api.ExInside, make([]int, 33)...), 34, 2)
	checkSize(t, chain(40, a), 41, 41)
	checkSize(t, chain(levels-1, a), levels, levels)
	checkSize(t, sized(100000), 100000, expr.Depth(sized(100000)))
	// Expressions that are not valid have a size and a depth, too.
	checkSize(t, api.Expr{}, 1, 1)
	checkSize(t, api.Expr{Op: -7, N: -7, Name: "?", Args: []api.Expr{{}, {}}}, 3, 2)
	checkSize(t, api.Expr{Op: api.ExConst, Args: []api.Expr{a, chain(2, a)}}, 5, 4)
	checkSize(t, api.Expr{Op: api.ExVar, Name: "a", Args: make([]api.Expr, 1000)}, 1001, 2)
	checkSize(t, api.Expr{Op: api.ExNot, Args: []api.Expr{}}, 1, 1)
}

// P8.3
func TestSizeAndDepthOfRandomExpressions(t *testing.T) {
	m := newMaker(3)
	for range 2000 {
		for _, e := range []api.Expr{m.expr(6), m.spoiled(6)} {
			list, paths := preorder(e)
			crowded := roomy(e)
			checkSize(t, crowded, len(list), slices.Max(paths))
			checkRoom(t, crowded, e)
		}
	}
}

func checkNames(t *testing.T, e api.Expr, names, arrays []string) {
	t.Helper()
	if got := expr.Names(e); !slices.Equal(got, names) {
		t.Errorf("Names(%s) = %.300q; want %.300q", show(e), got, names)
	}
	if got := expr.Arrays(e); !slices.Equal(got, arrays) {
		t.Errorf("Arrays(%s) = %.300q; want %.300q", show(e), got, arrays)
	}
}

// P8.4
func TestNamesAndArrays(t *testing.T) {
	a, b, c := variable("a"), variable("b"), variable("c")
	checkNames(t, a, []string{"a"}, nil)
	checkNames(t, number(1), nil, nil)
	checkNames(t, sum("d"), nil, []string{"d"})
	checkNames(t, element("d", number(0)), nil, []string{"d"})
	checkNames(t, element("d", a), []string{"a"}, []string{"d"})
	checkNames(t, element("e", element("d", sum("e"))), nil, []string{"e", "d"})
	checkNames(t, node(api.ExAdd, b, a), []string{"b", "a"}, nil)
	checkNames(t, node(api.ExAdd, a, a), []string{"a"}, nil)
	checkNames(t, node(api.ExIf, node(api.ExAdd, c, b), a, node(api.ExSub, b, c)), []string{"c", "b", "a"}, nil)
	checkNames(t, node(api.ExAdd, sum("a"), a), []string{"a"}, []string{"a"})
	checkNames(t, node(api.ExAdd, variable("d[1]"), variable("d[0]")), []string{"d[1]", "d[0]"}, nil)
	checkNames(t, node(api.ExAdd, sum("y"), node(api.ExAdd, element("x", a), sum("y"))), []string{"a"}, []string{"y", "x"})
	checkNames(t, chain(levels-2, node(api.ExAdd, b, sum("e"))), []string{"b"}, []string{"e"})
	// Names are found in expressions that are not valid, too, and are not checked.
	checkNames(t, api.Expr{}, nil, nil)
	checkNames(t, api.Expr{Op: api.ExConst, Name: "x", Args: []api.Expr{b}}, []string{"b"}, nil)
	checkNames(t, api.Expr{Op: 77, Name: "x", Args: []api.Expr{b, sum("in")}}, []string{"b"}, []string{"in"})
	checkNames(t, api.Expr{Op: api.ExVar, Name: "?", Args: []api.Expr{b, variable(""), b, variable("")}}, []string{"?", "b", ""}, nil)
	checkNames(t, api.Expr{Op: api.ExSum, Args: []api.Expr{sum("d[0]"), sum("")}}, nil, []string{"", "d[0]"})
	checkNames(t, api.Expr{Op: api.ExElem, Name: "d", N: 7}, nil, []string{"d"})
}

// P8.4: many names are found in time.
func TestNamesOfLargeExpressions(t *testing.T) {
	e, want := api.Expr{Op: api.ExInside}, []string{}
	for i := range 50000 {
		name := fmt.Sprintf("x%d", i)
		e.Args = append(e.Args, variable(name), sum(name))
		want = append(want, name)
	}
	e.Args = append(e.Args, e.Args...)
	checkNames(t, e, want, want)
}

// P8.4
func TestNamesOfRandomExpressions(t *testing.T) {
	m := newMaker(4)
	for range 2000 {
		for _, e := range []api.Expr{m.expr(5), m.spoiled(5)} {
			var names, arrays []string
			list, _ := preorder(e)
			for _, part := range list {
				if part.Op == api.ExVar && !slices.Contains(names, part.Name) {
					names = append(names, part.Name)
				}
				if (part.Op == api.ExElem || part.Op == api.ExSum) && !slices.Contains(arrays, part.Name) {
					arrays = append(arrays, part.Name)
				}
			}
			crowded := roomy(e)
			checkNames(t, crowded, names, arrays)
			checkRoom(t, crowded, e)
		}
	}
}

func checkSubst(t *testing.T, e api.Expr, name string, by, want api.Expr) {
	t.Helper()
	crowded, crowdedBy := roomy(e), roomy(by)
	got := expr.Subst(crowded, name, crowdedBy)
	if !equal(got, want) {
		t.Errorf("Subst(%s, %q, %s) = %s; want %s", show(e), name, show(by), show(got), show(want))
	}
	checkNew(t, got, crowded, crowdedBy)
	checkRoom(t, crowded, e)
	checkRoom(t, crowdedBy, by)
}

// P8.5
func TestSubst(t *testing.T) {
	a, b := variable("a"), variable("b")
	difference := node(api.ExSub, a, number(1))
	for _, c := range []struct {
		e    api.Expr
		name string
		by   api.Expr
		want api.Expr
	}{
		{a, "a", b, b},
		{a, "b", number(1), a},
		{a, "a", a, a},
		{a, "a", difference, difference},
		{number(1), "a", b, number(1)},
		{node(api.ExAdd, a, b), "a", number(3), node(api.ExAdd, number(3), b)},
		{node(api.ExAdd, a, a), "a", difference, node(api.ExAdd, difference, difference)},
		{node(api.ExIf, b, node(api.ExNot, a), a), "a", sum("d"), node(api.ExIf, b, node(api.ExNot, sum("d")), sum("d"))},
		{element("d", a), "a", number(2), element("d", number(2))},
		// Arrays and their elements are other names.
		{element("a", a), "a", b, element("a", b)},
		{sum("a"), "a", b, sum("a")},
		{node(api.ExAdd, variable("a[0]"), a), "a", b, node(api.ExAdd, variable("a[0]"), b)},
		{node(api.ExAdd, variable("a[0]"), a), "a[0]", b, node(api.ExAdd, b, a)},
		{element("a", number(0)), "a[0]", b, element("a", number(0))},
		// What is not valid is replaced and searched, too.
		{api.Expr{}, "", b, api.Expr{}},
		{variable(""), "", b, b},
		{variable("?"), "?", api.Expr{Op: 99}, api.Expr{Op: 99}},
		{api.Expr{Op: api.ExConst, Name: "a", Args: []api.Expr{a}}, "a", b, api.Expr{Op: api.ExConst, Name: "a", Args: []api.Expr{b}}},
		{api.Expr{Op: 77, N: 5, Name: "x", Args: []api.Expr{a, b}}, "a", b, api.Expr{Op: 77, N: 5, Name: "x", Args: []api.Expr{b, b}}},
		{api.Expr{Op: api.ExVar, N: 5, Name: "a", Args: []api.Expr{a, b}}, "a", b, b},
		{api.Expr{Op: api.ExVar, N: 5, Name: "x", Args: []api.Expr{a, b}}, "a", b, api.Expr{Op: api.ExVar, N: 5, Name: "x", Args: []api.Expr{b, b}}},
		{api.Expr{Op: api.ExSum, Name: "a", Args: []api.Expr{a}}, "a", b, api.Expr{Op: api.ExSum, Name: "a", Args: []api.Expr{b}}},
	} {
		checkSubst(t, c.e, c.name, c.by, c.want)
	}
}

// P8.5: the result may be too large to be valid.
func TestSubstInLargeExpressions(t *testing.T) {
	got := expr.Subst(chain(levels-1, variable("a")), "a", variable("b"))
	if !expr.Same(got, chain(levels-1, variable("b"))) || expr.Depth(got) != levels {
		t.Errorf("the deepest variable is not replaced")
	}
	large := sized(1000)
	variables := 0
	list, _ := preorder(large)
	for _, part := range list {
		variables += modelTruth(part.Op == api.ExVar)
	}
	if got, want := expr.Size(expr.Subst(large, "a", large)), 1000+999*variables; got != want {
		t.Errorf("the result has %d nodes; want %d", got, want)
	}
}

// modelSubst follows P8.5.
func modelSubst(e api.Expr, name string, by api.Expr) api.Expr {
	if e.Op == api.ExVar && e.Name == name {
		return by
	}
	var args []api.Expr
	for _, arg := range e.Args {
		args = append(args, modelSubst(arg, name, by))
	}
	e.Args = args
	return e
}

// P8.5
func TestSubstInRandomExpressions(t *testing.T) {
	m := newMaker(5)
	for range 2000 {
		for _, e := range []api.Expr{m.expr(5), m.spoiled(5)} {
			by, name := m.spoiled(3), pick(m, "a", "b", "d", "d[0]", longName, "")
			checkSubst(t, e, name, by, modelSubst(e, name, by))
		}
	}
}

func checkSame(t *testing.T, a, b api.Expr, want bool) {
	t.Helper()
	if expr.Same(a, b) != want || expr.Same(b, a) != want {
		t.Errorf("Same(%s, %s) is not %t", show(a), show(b), want)
	}
}

// P8.8
func TestSame(t *testing.T) {
	list := []api.Expr{
		{}, {Op: 99}, {N: 1}, {N: -1}, {Name: "a"}, {Args: []api.Expr{{}}}, {Args: []api.Expr{{}, {}}}, {Args: []api.Expr{{Args: []api.Expr{{}}}}},
		number(0), number(1), number(65535), variable("a"), variable("b"), variable("A"), variable("a "), sum("a"), element("a", number(0)), element("a", number(1)), element("b", number(0)),
		{Op: api.ExVar, Name: "a", N: 1}, {Op: api.ExVar, Name: "a", Args: []api.Expr{number(0)}},
		numbers(api.ExAdd, 1, 2), numbers(api.ExAdd, 2, 1), numbers(api.ExAdd, 1), numbers(api.ExAdd, 1, 2, 3), numbers(api.ExSub, 1, 2), numbers(api.ExAdd),
		node(api.ExAdd, number(1), variable("a")), node(api.ExAdd, variable("a"), number(1)), node(api.ExAdd, number(1), number(2), api.Expr{}),
		node(api.ExNot, node(api.ExNot, number(1))), node(api.ExNot, node(api.ExNot, number(2))), node(api.ExNot, number(1)),
		numbers(api.ExInside, 1, 2, 3), numbers(api.ExInside, 1, 2, 3, 4, 5), numbers(api.ExInside, 1, 2, 3, 4, 6),
		chain(levels-1, variable("a")), chain(levels-1, variable("b")), chain(levels-2, variable("a")),
	}
	for i, a := range list {
		for j, b := range list {
			checkSame(t, a, b, i == j)
		}
	}
	checkSame(t, api.Expr{Op: api.ExConst, Args: []api.Expr{}}, number(0), true)
}

// P8.8: an expression is the same as its copy, and differs from it if a single node is changed.
func TestSameOfRandomExpressions(t *testing.T) {
	m := newMaker(6)
	for range 2000 {
		e := m.spoiled(5)
		other := m.changed(e, 8, m.spoil)
		checkSame(t, roomy(e), trimmed(e), true)
		checkSame(t, roomy(e), other, equal(e, other))
	}
}
