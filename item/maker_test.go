package item_test

import (
	"fmt"
	"math/rand"
	"slices"
	"strings"
	"testing"

	"testbench/api"
)

// maker makes random constraints.
type maker struct{ *rand.Rand }

func newMaker(seed int64) maker {
	return maker{rand.New(rand.NewSource(seed))}
}

func pick[T any](m maker, list ...T) T {
	return list[m.Intn(len(list))]
}

// class returns a class without two fields of the same name.
func (m maker) class() api.Class {
	c := simple()
	if m.Intn(2) == 0 {
		c = api.Class{Fields: []api.Field{field("a", 0), field("b", 0), field("c", 0)}}
		for _, name := range []string{"d", "e", "f"} {
			c.Fields = append(c.Fields, field(name, 1+m.Intn(8)))
		}
	}
	m.Shuffle(len(c.Fields), func(i, j int) { c.Fields[i], c.Fields[j] = c.Fields[j], c.Fields[i] })
	return c
}

// leaf returns an expression without operands, whose names are those of a class or bound.
func (m maker) leaf(c api.Class, bound []string) api.Expr {
	f := pick(m, c.Fields...)
	switch {
	case len(bound) > 0 && m.Intn(3) == 0:
		return ex(pick(m, bound...))
	case m.Intn(3) == 0:
		return number(pick(m, 0, 1, 2, 3, 7, 8, 65535, m.Intn(65536)))
	case f.Size == 0:
		return ex(f.Name)
	case m.Intn(2) == 0:
		return elementOf(f.Name, m.Intn(f.Size))
	}
	return api.Expr{Op: api.ExSum, Name: f.Name}
}

// expr returns an expression with at most so many levels, whose names are those of a class or bound.
func (m maker) expr(levels int, c api.Class, bound []string) api.Expr {
	if levels == 1 || m.Intn(4) == 0 {
		return m.leaf(c, bound)
	}
	operands := map[int]int{api.ExElem: 1, api.ExNot: 1, api.ExNeg: 1, api.ExOnes: 1, api.ExIf: 3, api.ExInside: 3, api.ExAdd: 2, api.ExMul: 2, api.ExLt: 2, api.ExEq: 2, api.ExBoth: 2, api.ExEither: 2, api.ExXor: 2, api.ExImplies: 2}
	made := api.Expr{Op: pick(m, api.ExElem, api.ExElem, api.ExNot, api.ExNeg, api.ExOnes, api.ExIf, api.ExInside, api.ExAdd, api.ExMul, api.ExLt, api.ExEq, api.ExBoth, api.ExEither, api.ExXor, api.ExImplies)}
	if made.Op == api.ExElem {
		made.Name = pick(m, "d", "e", "f")
	}
	for range operands[made.Op] {
		made.Args = append(made.Args, m.expr(levels-1, c, bound))
	}
	return made
}

// names returns names of variables and arrays of a class.
func (m maker) names(c api.Class) []string {
	var list []string
	for range 1 + m.Intn(3) {
		f := pick(m, c.Fields...)
		if f.Size > 0 && m.Intn(2) == 0 {
			f.Name = fmt.Sprintf("%s[%d]", f.Name, m.Intn(f.Size))
		}
		list = append(list, f.Name)
	}
	return list
}

// outermost returns an ItDist or ItSolve for a class.
func (m maker) outermost(c api.Class) api.Item {
	if m.Intn(2) == 0 {
		return api.Item{Kind: api.ItSolve, Before: m.names(c), After: m.names(c)}
	}
	item := dist(m.names(c)[0])
	for range m.Intn(4) {
		lo := pick(m, 0, m.Intn(65536))
		item.Weights = append(item.Weights, api.Weight{Lo: lo, Hi: pick(m, lo, 65535), Weight: pick(m, 0, 1, 1000), Each: m.Intn(2) == 0})
	}
	return item
}

// items returns constraints for a class, in which the indices are bound, and in which constraints are at most so deep.
func (m maker) items(levels int, c api.Class, bound []string) []api.Item {
	var made []api.Item
	for range 1 + m.Intn(pick(m, 1, 2, 3)) - pick(m, 0, 0, 0, 1) {
		switch kind := pick(m, 1, 2, 3, 4, 4, 5, 5, 5, 6); {
		case kind == api.ItIf && levels > 0:
			item := api.Item{Kind: api.ItIf, Expr: m.expr(3, c, bound), Items: m.items(levels-1, c, bound), Else: m.items(levels-1, c, bound)}
			made = append(made, item)
		case kind == api.ItEach && levels > 0:
			index := fmt.Sprintf("i%d", len(bound))
			inner := append(slices.Clone(bound), index)
			made = append(made, each(index, pick(m, "d", "e", "f"), m.items(levels-1, c, inner)...))
		case kind == api.ItDist && levels == 4, kind == api.ItSolve && levels == 4:
			made = append(made, m.outermost(c))
		default:
			made = append(made, api.Item{Kind: pick(m, api.ItHard, api.ItHard, api.ItSoft), Expr: m.expr(pick(m, 3, 4), c, bound)})
		}
	}
	return made
}

// changed returns a copy of the constraints, where change has been called for one of n.
func (m maker) changed(l []api.Item, n int, change func(item *api.Item)) []api.Item {
	var made []api.Item
	for _, item := range plain(l) {
		item.Items, item.Else = m.changed(item.Items, n, change), m.changed(item.Else, n, change)
		if m.Intn(n) == 0 {
			change(&item)
		}
		made = append(made, item)
	}
	return made
}

// spoil makes a constraint wrong, most of the time in a field that its kind uses.
func (m maker) spoil(item *api.Item) {
	name := pick(m, "a", "b", "d", "f", "z", "i0", "i1", "a[0]", "d[2]", "d[3]", "z[0]", "A", "d[8]", "soft", "")
	wrong := pick(m, ex("sum(a)"), ex("d"), ex("z"), ex("i0"), ex("z[1]"), ex("a@1"), ex("z@1"), ex("d@7"), ex("a[i1]"), node(99), deep(24, ex("a")), api.Expr{Op: api.ExVar, Name: name})
	field := pick(m, pick(m, strings.Fields(usedFields[item.Kind]+" Kind")...), pick(m, "Kind", "Expr", "Name", "Index", "Weights", "Items", "Else", "Before", "After"))
	switch field {
	case "Kind":
		item.Kind = m.Intn(9) - 1
	case "Expr":
		item.Expr = pick(m, wrong, node(pick(m, api.ExAdd, api.ExAdd, api.ExNot), item.Expr, wrong))
	case "Name":
		item.Name = name
	case "Index":
		item.Index = pick(m, name, "a", "d", "i0")
	case "Weights":
		item.Weights = append(item.Weights, make([]api.Weight, pick(m, 0, 1, 15, 16))...)
		item.Weights = append(item.Weights, api.Weight{Lo: m.Intn(3) - 1, Hi: pick(m, 0, 1, 65535, 65536), Weight: pick(m, -1, 0, 1000, 1001)})
	case "Items":
		item.Items = append(item.Items, m.more())
	case "Else":
		item.Else = append(item.Else, slices.Repeat(list(m.more()), pick(m, 1, 1, 64))...)
	case "Before":
		item.Before = append(item.Before, name)
	case "After":
		item.After = append(item.After, name)
	}
}

// more returns a constraint that is wrong at some places.
func (m maker) more() api.Item {
	return pick(m, hard("a"), dist("b"), solve("a", "b"), when("a"), each("i0", "d"), each("a", "d"), each("i9", "a"), each("i9", "z"))
}

// spoiled returns constraints, many of which have an error.
func (m maker) spoiled(c api.Class) []api.Item {
	return m.changed(m.items(4, c, nil), pick(m, 2, 5, 15), m.spoil)
}

// Enough of the random constraints have each error.
func TestMaker(t *testing.T) {
	m := newMaker(1)
	valid, checked, expanded := map[api.Errno]int{}, map[api.Errno]int{}, map[api.Errno]int{}
	for range 5000 {
		c := m.class()
		l := m.spoiled(c)
		valid[modelValid(l)]++
		checked[modelCheck(l, c)]++
		_, err := modelExpand(m.items(4, c, nil), c)
		expanded[err]++
	}
	for _, err := range []api.Errno{api.OK, api.ErrArg, api.ErrLimit, api.ErrName} {
		if valid[err] < 50 {
			t.Errorf("%d lists have the error %d for Valid", valid[err], err)
		}
	}
	for _, err := range []api.Errno{api.ErrType, api.ErrName, api.ErrDuplicate} {
		if checked[err] < 50 {
			t.Errorf("%d lists have the error %d for Check", checked[err], err)
		}
	}
	if expanded[api.OK] < 4000 || expanded[api.ErrLimit] < 20 || len(expanded) > 2 {
		t.Errorf("the errors of expansions are %v", expanded)
	}
}
