package item

import (
	"slices"
	"testbench/api"
	"testbench/expr"
)

const tooMany = api.MaxExpr + 1 // indices of an array that give too many constraints, if they give any

// expansion collects the constraints that others give.
type expansion struct {
	fields fields
	list   []api.Item
}

// expanded returns what valid constraints give; false if it is too long.
func (f fields) expanded(l []api.Item) ([]api.Item, bool) {
	if f.count(l) > api.MaxExpr {
		return nil, false
	}
	x := expansion{fields: f}
	x.add(l, nil, clone)
	return x.list, true
}

// count returns how many constraints valid constraints give; if they are too many, any number that is too large.
func (f fields) count(l []api.Item) int {
	total := 0
	for _, item := range l {
		total += f.countOf(item)
	}
	return total
}

// countOf returns what count does for a single constraint. No sum or product is beyond an int, since the nesting is small.
func (f fields) countOf(item api.Item) int {
	switch item.Kind {
	case api.ItIf:
		return f.count(item.Items) + f.count(item.Else)
	case api.ItEach:
		return f.count(item.Items) * min(f[item.Name], tooMany)
	}
	return 1
}

// add adds what the constraints give under the condition, which may be nil, where fixed returns an expression in new memory with numbers in place of indices.
func (x *expansion) add(l []api.Item, condition *api.Expr, fixed func(e api.Expr) api.Expr) {
	for _, item := range l {
		// An array of a class that is not valid can have more indices than there is time for.
		if x.fields.countOf(item) == 0 {
			continue
		}
		switch item.Kind {
		case api.ItIf:
			holds := fixed(item.Expr)
			x.add(item.Items, under(condition, api.ExBoth, holds), fixed)
			x.add(item.Else, under(condition, api.ExBoth, api.Expr{Op: api.ExNot, Args: []api.Expr{holds}}), fixed)
		case api.ItEach:
			for k := range x.fields[item.Name] {
				x.add(item.Items, condition, func(e api.Expr) api.Expr {
					return expr.Subst(fixed(e), item.Index, constant(k))
				})
			}
		case api.ItHard, api.ItSoft:
			e := under(condition, api.ExImplies, fixed(item.Expr))
			x.list = append(x.list, api.Item{Kind: item.Kind, Expr: *e})
		default:
			x.list = append(x.list, outermost(item))
		}
	}
}

// under returns e, or, if there is a condition, the operator's node of a copy of the condition and e.
func under(condition *api.Expr, op int, e api.Expr) *api.Expr {
	if condition == nil {
		return &e
	}
	return &api.Expr{Op: op, Args: []api.Expr{clone(*condition), e}}
}

// outermost returns an ItDist or ItSolve in new memory.
func outermost(item api.Item) api.Item {
	return api.Item{
		Kind:    item.Kind,
		Name:    item.Name,
		Weights: slices.Clone(item.Weights),
		Before:  slices.Clone(item.Before),
		After:   slices.Clone(item.After),
	}
}

// clone returns e in new memory.
func clone(e api.Expr) api.Expr {
	e.Args = slices.Clone(e.Args)
	for i, arg := range e.Args {
		e.Args[i] = clone(arg)
	}
	return e
}

func constant(n int) api.Expr {
	return api.Expr{Op: api.ExConst, N: n}
}

// isTooLarge reports whether the expression of a constraint that was expanded has an error.
func isTooLarge(item api.Item) bool {
	return !isOutermost(item.Kind) && expr.Valid(item.Expr) != api.OK
}
