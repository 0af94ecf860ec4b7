package item_test

import (
	"fmt"

	"testbench/api"
	"testbench/expr"
)

// sizesOf returns the sizes of the fields of a class no two of whose fields have the same name.
func sizesOf(c api.Class) map[string]int {
	sizes := map[string]int{}
	for _, f := range c.Fields {
		sizes[f.Name] = f.Size
	}
	return sizes
}

func number(n int) api.Expr {
	return api.Expr{Op: api.ExConst, N: n}
}

func node(op int, args ...api.Expr) api.Expr {
	return api.Expr{Op: op, Args: args}
}

// deep returns the expression below n nodes with one operand each.
func deep(n int, e api.Expr) api.Expr {
	for range n {
		e = node(api.ExInv, e)
	}
	return e
}

func elementOf(array string, k int) api.Expr {
	return api.Expr{Op: api.ExVar, Name: fmt.Sprintf("%s[%d]", array, k)}
}

// numbered returns e with the number in place of the index.
func numbered(e api.Expr, index string, k int) api.Expr {
	if e.Op == api.ExVar && e.Name == index {
		return number(k)
	}
	var args []api.Expr
	for _, arg := range e.Args {
		args = append(args, numbered(arg, index, k))
	}
	e.Args = args
	return e
}

// numberedItems returns the constraints with the number in place of the index.
func numberedItems(l []api.Item, index string, k int) []api.Item {
	var made []api.Item
	for _, item := range l {
		item.Expr = numbered(item.Expr, index, k)
		item.Items, item.Else = numberedItems(item.Items, index, k), numberedItems(item.Else, index, k)
		made = append(made, item)
	}
	return made
}

// unrolled returns valid constraints without ItEach.
func unrolled(l []api.Item, sizes map[string]int) []api.Item {
	var made []api.Item
	for _, item := range l {
		if item.Kind != api.ItEach {
			item.Items, item.Else = unrolled(item.Items, sizes), unrolled(item.Else, sizes)
			made = append(made, item)
			continue
		}
		for k := range sizes[item.Name] {
			made = append(made, unrolled(numberedItems(item.Items, item.Index, k), sizes)...)
		}
	}
	return made
}

// flat returns constraints, none of which is an ItEach, without ItIf, under all of the conditions.
func flat(l []api.Item, conditions ...api.Expr) []api.Item {
	var made []api.Item
	for _, item := range l {
		switch {
		case item.Kind == api.ItIf:
			made = append(made, flat(item.Items, joined(append(conditions, item.Expr)))...)
			made = append(made, flat(item.Else, joined(append(conditions, node(api.ExNot, item.Expr))))...)
		case len(conditions) > 0:
			made = append(made, api.Item{Kind: item.Kind, Expr: node(api.ExImplies, joined(conditions), item.Expr)})
		default:
			made = append(made, item)
		}
	}
	return made
}

func joined(conditions []api.Expr) api.Expr {
	all := conditions[0]
	for _, condition := range conditions[1:] {
		all = node(api.ExBoth, all, condition)
	}
	return all
}

// modelExpand follows P11.5.
func modelExpand(l []api.Item, c api.Class) ([]api.Item, api.Errno) {
	if err := modelCheck(l, c); err != api.OK {
		return nil, err
	}
	made := flat(unrolled(l, sizesOf(c)))
	if len(made) > 400 {
		return nil, api.ErrLimit
	}
	for _, item := range made {
		if (item.Kind == api.ItHard || item.Kind == api.ItSoft) && expr.Valid(item.Expr) != api.OK {
			return nil, api.ErrLimit
		}
	}
	return made, api.OK
}

// measure is the size and the depth of an expression, which may be far too large to be made; known is its value, if it is a constant, and otherwise -1.
type measure struct {
	size, depth float64
	known       int
}

// measured returns the measure of what Scalar makes of the expression.
func measured(e api.Expr, sizes map[string]int) measure {
	n := float64(sizes[e.Name])
	switch e.Op {
	case api.ExConst:
		return measure{1, 1, e.N}
	case api.ExSum:
		return measure{2*n - 1, n, -1}
	case api.ExElem:
		index := measured(e.Args[0], sizes)
		if index.known >= sizes[e.Name] {
			return measure{1, 1, 0}
		}
		if index.known >= 0 {
			return measure{1, 1, -1}
		}
		return measure{n*(4+index.size) + 1, n + 1 + index.depth, -1}
	}
	all := measure{1, 1, -1}
	for _, arg := range e.Args {
		operand := measured(arg, sizes)
		all.size, all.depth = all.size+operand.size, max(all.depth, operand.depth+1)
	}
	return all
}

// modelScalar follows P11.6.
func modelScalar(e api.Expr, c api.Class) (api.Expr, api.Errno) {
	if err := expr.Valid(e); err != api.OK {
		return api.Expr{}, err
	}
	if err := scopeOf(c).expr(e, nil); err != api.OK {
		return api.Expr{}, err
	}
	sizes := sizesOf(c)
	if m := measured(e, sizes); m.size > 400 || m.depth > 24 {
		return api.Expr{}, api.ErrLimit
	}
	made := scalar(e, sizes)
	if expr.Valid(made) != api.OK {
		return api.Expr{}, api.ErrLimit
	}
	return made, api.OK
}

// scalar makes the expression that P11.6 describes; ifs and sums grow from their last element on.
func scalar(e api.Expr, sizes map[string]int) api.Expr {
	var args []api.Expr
	for _, arg := range e.Args {
		args = append(args, scalar(arg, sizes))
	}
	e.Args = args
	n := sizes[e.Name]
	switch {
	case e.Op == api.ExSum:
		return sumOf(e.Name, n)
	case e.Op != api.ExElem:
		return e
	case args[0].Op == api.ExConst && args[0].N < n:
		return elementOf(e.Name, args[0].N)
	case args[0].Op == api.ExConst:
		return number(0)
	}
	made := number(0)
	for k := n - 1; k >= 0; k-- {
		made = node(api.ExIf, node(api.ExEq, args[0], number(k)), elementOf(e.Name, k), made)
	}
	return made
}

func sumOf(array string, n int) api.Expr {
	if n == 1 {
		return elementOf(array, 0)
	}
	return node(api.ExAdd, sumOf(array, n-1), elementOf(array, n-1))
}

// holds follows C11.1: it reports whether the constraints hold for the signals, to which those of bound indices belong.
func holds(l []api.Item, sizes map[string]int, env []api.Signal) bool {
	for _, item := range l {
		switch item.Kind {
		case api.ItHard:
			if value(item.Expr, env) == 0 {
				return false
			}
		case api.ItIf:
			chosen := item.Else
			if value(item.Expr, env) != 0 {
				chosen = item.Items
			}
			if !holds(chosen, sizes, env) {
				return false
			}
		case api.ItEach:
			for k := range sizes[item.Name] {
				if !holds(item.Items, sizes, append(env[:len(env):len(env)], api.Signal{Name: item.Index, Value: k})) {
					return false
				}
			}
		}
	}
	return true
}

func value(e api.Expr, env []api.Signal) int {
	n, err := expr.Eval(e, env)
	if err != api.OK {
		panic(fmt.Sprintf("the value of %s has the error %d", show(e), err))
	}
	return n
}
