package class

import (
	"slices"
	"testbench/api"
)

// cloneClass returns the class in new memory.
func cloneClass(c api.Class) api.Class {
	c.Fields = slices.Clone(c.Fields)
	c.Blocks = cloneEach(c.Blocks, cloneBlock)
	return c
}

func cloneBlock(b api.Block) api.Block {
	b.Items = cloneEach(b.Items, cloneItem)
	return b
}

func cloneItem(item api.Item) api.Item {
	item.Expr = cloneExpr(item.Expr)
	item.Weights = slices.Clone(item.Weights)
	item.Items = cloneEach(item.Items, cloneItem)
	item.Else = cloneEach(item.Else, cloneItem)
	item.Before = slices.Clone(item.Before)
	item.After = slices.Clone(item.After)
	return item
}

func cloneExpr(e api.Expr) api.Expr {
	e.Args = cloneEach(e.Args, cloneExpr)
	return e
}

// cloneEach returns the list in new memory, with clones of its parts.
func cloneEach[T any](parts []T, clone func(part T) T) []T {
	parts = slices.Clone(parts)
	for i, part := range parts {
		parts[i] = clone(part)
	}
	return parts
}
