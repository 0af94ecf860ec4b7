package item

import (
	"iter"
	"slices"
	"testbench/api"
)

// place is where a constraint stands: how many constraints contain it, and how many of them bind each index.
type place struct {
	nesting int
	bound   map[string]int
}

// constraints returns the walk over the constraints, in their order. Each place is only valid until the next one.
func constraints(l []api.Item) iter.Seq2[place, api.Item] {
	return func(yield func(at place, item api.Item) bool) {
		bound := map[string]int{}
		var walk func(l []api.Item, nesting int) bool
		walk = func(l []api.Item, nesting int) bool {
			for _, item := range l {
				if !yield(place{nesting, bound}, item) {
					return false
				}
				binds := 0
				if item.Kind == api.ItEach {
					binds = 1
				}
				bound[item.Index] += binds
				goesOn := walk(item.Items, nesting+1)
				bound[item.Index] -= binds
				if !goesOn || !walk(item.Else, nesting+1) {
					return false
				}
			}
			return true
		}
		walk(l, 0)
	}
}

// nodes returns the walk over the nodes of e, in their order.
func nodes(e api.Expr) iter.Seq[api.Expr] {
	return func(yield func(node api.Expr) bool) {
		var walk func(node api.Expr) bool
		walk = func(node api.Expr) bool {
			if !yield(node) {
				return false
			}
			for _, arg := range node.Args {
				if !walk(arg) {
					return false
				}
			}
			return true
		}
		walk(e)
	}
}

// namesOf returns the names of variables and arrays in a constraint, without those in the constraints that it contains; a name may occur more than once.
func namesOf(item api.Item, bound map[string]int) []string {
	switch item.Kind {
	case api.ItHard, api.ItSoft, api.ItIf:
		return namesIn(item.Expr, bound)
	case api.ItDist, api.ItEach:
		return []string{item.Name}
	case api.ItSolve:
		return slices.Concat(item.Before, item.After)
	}
	return nil
}

func namesIn(e api.Expr, bound map[string]int) []string {
	var list []string
	for node := range nodes(e) {
		if isArray(node.Op) || node.Op == api.ExVar && bound[node.Name] == 0 {
			list = append(list, node.Name)
		}
	}
	return list
}

// isArray reports whether the name of a node with the operator is that of an array.
func isArray(op int) bool {
	return op == api.ExElem || op == api.ExSum
}
