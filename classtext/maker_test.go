package classtext_test

import (
	"fmt"
	"math/rand"
	"strings"
	"testing"

	"testbench/api"
	"testbench/class"
	"testbench/exprtext"
	"testbench/item"
)

const longName = "a123456789_BCDEF" // a name with the most bytes

// ex returns the expression with the text.
func ex(text string) api.Expr {
	e, _, err := exprtext.Parse(text)
	if err != api.OK {
		panic(fmt.Sprintf("%q has the error %d", text, err))
	}
	return e
}

func node(op int, args ...api.Expr) api.Expr {
	return api.Expr{Op: op, Args: args}
}

func number(n int) api.Expr {
	return api.Expr{Op: api.ExConst, N: n}
}

func hard(text string) api.Item {
	return api.Item{Kind: api.ItHard, Expr: ex(text)}
}

func soft(text string) api.Item {
	return api.Item{Kind: api.ItSoft, Expr: ex(text)}
}

func dist(name string, weights ...api.Weight) api.Item {
	return api.Item{Kind: api.ItDist, Name: name, Weights: append(weights, api.Weight{Lo: 1, Hi: 2, Weight: 3})}
}

func when(text string, items ...api.Item) api.Item {
	return api.Item{Kind: api.ItIf, Expr: ex(text), Items: items}
}

func otherwise(item api.Item, items ...api.Item) api.Item {
	item.Else = items
	return item
}

func each(index, array string, items ...api.Item) api.Item {
	return api.Item{Kind: api.ItEach, Name: array, Index: index, Items: items}
}

func solve(before, after string) api.Item {
	return api.Item{Kind: api.ItSolve, Before: strings.Fields(before), After: strings.Fields(after)}
}

func list(items ...api.Item) []api.Item {
	return items
}

// maker makes random classes.
type maker struct{ *rand.Rand }

func newMaker(seed int64) maker {
	return maker{rand.New(rand.NewSource(seed))}
}

func pick[T any](m maker, list ...T) T {
	return list[m.Intn(len(list))]
}

func (m maker) name() string {
	return pick(m, "a", "b", "d", "i", "sum", "ones", "software", "ifs", "distA", longName, fmt.Sprintf("x%d", m.Intn(10)))
}

func (m maker) variable() string {
	return m.name() + pick(m, "", "", "[0]", "[7]", fmt.Sprintf("[%d]", m.Intn(8)))
}

func (m maker) variables() []string {
	var names []string
	for range 1 + m.Intn(3) {
		names = append(names, m.variable())
	}
	return names
}

// expr returns an expression with at most so many levels.
func (m maker) expr(levels int) api.Expr {
	if levels == 1 || m.Intn(4) == 0 {
		return pick(m, number(m.Intn(65536)), number(m.Intn(3)), api.Expr{Op: api.ExVar, Name: m.variable()}, api.Expr{Op: api.ExSum, Name: m.name()})
	}
	args := func(n int) []api.Expr {
		var args []api.Expr
		for range n {
			args = append(args, m.expr(levels-1))
		}
		return args
	}
	switch m.Intn(8) {
	case 0:
		return node(api.ExIf, args(3)...)
	case 1:
		return node(api.ExInside, args(3+2*m.Intn(3))...)
	case 2:
		return api.Expr{Op: api.ExElem, Name: m.name(), Args: args(1)}
	case 3:
		return node(pick(m, api.ExNot, api.ExInv, api.ExNeg, api.ExOnes), args(1)...)
	}
	return node(api.ExAdd+m.Intn(api.ExImplies-api.ExAdd+1), args(2)...)
}

// weights returns at least one valid range.
func (m maker) weights() []api.Weight {
	var l []api.Weight
	for range 1 + m.Intn(pick(m, 1, 4, 16)) {
		lo := pick(m, 0, 65535, m.Intn(5), m.Intn(65536))
		l = append(l, api.Weight{Lo: lo, Hi: pick(m, lo, 65535, lo+m.Intn(65536-lo)), Weight: pick(m, 0, 1, 1000, m.Intn(1001)), Each: m.Intn(2) == 0})
	}
	return l
}

// items returns valid constraints, which are at most so deep.
func (m maker) items(levels int) []api.Item {
	var made []api.Item
	for range m.Intn(pick(m, 1, 2, 4)) {
		switch kind := 1 + m.Intn(6); {
		case kind == api.ItIf && levels > 0:
			made = append(made, api.Item{Kind: kind, Expr: m.expr(3), Items: m.items(levels - 1), Else: m.items(levels - 1)})
		case kind == api.ItEach && levels > 0:
			made = append(made, each(m.name(), m.name(), m.items(levels-1)...))
		case kind == api.ItDist && levels == 4:
			made = append(made, api.Item{Kind: kind, Name: m.variable(), Weights: m.weights()})
		case kind == api.ItSolve && levels == 4:
			made = append(made, api.Item{Kind: kind, Before: m.variables(), After: m.variables()})
		default:
			made = append(made, api.Item{Kind: pick(m, api.ItHard, api.ItSoft), Expr: m.expr(1 + m.Intn(5))})
		}
	}
	return made
}

// validItems returns valid constraints.
func (m maker) validItems() []api.Item {
	for {
		if l := m.items(4); item.Valid(l) == api.OK {
			return l
		}
	}
}

func (m maker) field(name string) api.Field {
	f := api.Field{Name: name, Width: 1 + m.Intn(8), Mode: m.Intn(3)}
	if f.Mode != api.MoCyclic {
		f.Size = pick(m, 0, 1, 8, m.Intn(9))
	}
	if f.Mode == api.MoState {
		f.Init = pick(m, 0, 1<<f.Width-1, m.Intn(1<<f.Width))
	}
	return f
}

// class returns a valid class.
func (m maker) class() api.Class {
	c := api.Class{Name: m.name(), Parent: pick(m, "", m.name())}
	for i := range m.Intn(pick(m, 1, 3, 17)) {
		c.Fields = append(c.Fields, m.field(fmt.Sprintf("%c%d", 'a'+m.Intn(26), i)))
	}
	for i := range m.Intn(pick(m, 1, 3, 17)) {
		c.Blocks = append(c.Blocks, api.Block{Name: fmt.Sprintf("%c%d", 'a'+m.Intn(26), i), Items: m.validItems()})
	}
	return c
}

// spoil makes a constraint wrong, most of the time; often in a field that its kind uses.
func (m maker) spoil(item *api.Item) {
	used := map[int][]int{api.ItHard: {1}, api.ItSoft: {1}, api.ItDist: {2, 4, 5}, api.ItIf: {1, 6, 7}, api.ItEach: {2, 3, 6}, api.ItSolve: {8, 9}}[item.Kind]
	name := pick(m, "A", "", "if", "a[8]", "a@0", "a b", "é", "a\n", longName+"G")
	switch pick(m, pick(m, used...), m.Intn(10)) {
	case 0:
		item.Kind = pick(m, -1, 0, 7, 1+m.Intn(6))
	case 1:
		item.Expr = pick(m, api.Expr{}, number(65536), api.Expr{Op: api.ExVar, Name: name}, node(api.ExAdd, item.Expr), node(api.ExNot, item.Expr))
	case 2:
		item.Name = name
	case 3:
		item.Index = name
	case 4:
		item.Weights = append(item.Weights[:len(item.Weights):len(item.Weights)], api.Weight{Lo: m.Intn(3) - 1, Hi: pick(m, 0, 65535, 65536), Weight: pick(m, -1, 0, 1000, 1001)})
	case 5:
		item.Weights = nil
	case 6:
		item.Items = append(item.Items[:len(item.Items):len(item.Items)], pick(m, dist("a"), solve("a", "b"), hard("a")))
	case 7:
		item.Else = append(item.Else[:len(item.Else):len(item.Else)], pick(m, dist("a"), solve("a", "b"), hard("a")))
	case 8:
		item.Before = pick(m, nil, []string{"a", name}, []string{"a"})
	case 9:
		item.After = pick(m, nil, []string{"a", name}, []string{"a"})
	}
}

// spoiled returns a copy of the constraints, in which about one of n has been made wrong.
func (m maker) spoiled(l []api.Item, n int) []api.Item {
	var made []api.Item
	for _, item := range l {
		item.Items, item.Else = m.spoiled(item.Items, n), m.spoiled(item.Else, n)
		if m.Intn(n) == 0 {
			m.spoil(&item)
		}
		made = append(made, item)
	}
	return made
}

// neighbour returns a copy of the valid class with a small difference, most of the time; it is valid, too.
func (m maker) neighbour(c api.Class) api.Class {
	c = plain(c)
	switch kind := m.Intn(8); {
	case kind == 0:
		c.Name = m.name()
	case kind == 1:
		c.Parent = pick(m, "", m.name())
	case kind <= 3 && len(c.Fields) > 0:
		f := pick(m, c.Fields...)
		at := m.Intn(len(c.Fields))
		c.Fields[at] = pick(m, m.field(c.Fields[at].Name), api.Field{Name: c.Fields[at].Name, Width: f.Width, Size: f.Size, Mode: f.Mode, Init: f.Init})
	case len(c.Blocks) > 0:
		b := &c.Blocks[m.Intn(len(c.Blocks))]
		b.Items = m.neighbourItems(b.Items)
	}
	return c
}

// neighbourItems returns a copy of the valid constraints with a small difference, most of the time; they are valid, too.
func (m maker) neighbourItems(l []api.Item) []api.Item {
	made := plain(l)
	if len(made) == 0 {
		return m.validItems()
	}
	one := &made[m.Intn(len(made))]
	switch {
	case m.Intn(3) == 0:
		made = made[1:]
	case one.Kind == api.ItHard, one.Kind == api.ItSoft:
		one.Kind = api.ItHard + api.ItSoft - one.Kind
	case one.Kind == api.ItDist:
		w := &one.Weights[m.Intn(len(one.Weights))]
		w.Each, w.Lo, w.Weight = m.Intn(2) == 0, pick(m, w.Lo, w.Hi), pick(m, w.Weight, 0)
	case one.Kind == api.ItSolve:
		one.Before, one.After = pick(m, one.Before, one.After), pick(m, one.Before, one.After)
	case one.Kind == api.ItEach:
		one.Name, one.Index = pick(m, one.Name, one.Index), pick(m, one.Name, one.Index)
	case one.Kind == api.ItIf:
		one.Items, one.Else = pick(m, one.Items, one.Else), pick(m, one.Items, one.Else)
	}
	if item.Valid(made) != api.OK {
		return l
	}
	return made
}

// spoilField makes a field wrong, most of the time.
func (m maker) spoilField(f *api.Field) {
	switch m.Intn(5) {
	case 0:
		f.Name = pick(m, "A", "", "rand", "a[0]", "a b", longName+"G")
	case 1:
		f.Width = pick(m, -1, 0, 9)
	case 2:
		f.Size = pick(m, -1, 1, 9)
	case 3:
		f.Mode = pick(m, -1, 2, 3)
	case 4:
		f.Init = pick(m, -1, 1, 256)
	}
}

// spoiledClass returns a copy of the class with something wrong, most of the time.
func (m maker) spoiledClass(c api.Class) api.Class {
	c = plain(c)
	at := m.Intn(max(len(c.Fields), len(c.Blocks), 1))
	switch kind := m.Intn(8); {
	case kind == 0:
		c.Name = pick(m, "A", "", "class", "a[0]")
	case kind == 1:
		c.Parent = pick(m, "A", "extends", "a[0]", " ")
	case kind == 2 && at < len(c.Fields):
		c.Fields = append(c.Fields, c.Fields[at])
	case kind == 3 && at < len(c.Blocks):
		c.Blocks = append(c.Blocks, c.Blocks[at])
	case kind == 4 && at < len(c.Blocks):
		c.Blocks[at].Name = pick(m, "A", "", "constraint", "a[0]")
	case kind <= 6 && at < len(c.Blocks):
		c.Blocks[at].Items = m.spoiled(c.Blocks[at].Items, 2)
	case at < len(c.Fields):
		m.spoilField(&c.Fields[at])
	}
	return c
}

// Enough of the random constraints and classes are valid and not valid.
func TestMaker(t *testing.T) {
	m := newMaker(1)
	kinds, errors, classes := map[int]int{}, map[api.Errno]int{}, map[api.Errno]int{}
	wrongBlocks := 0
	for range 2000 {
		l := m.validItems()
		for _, item := range l {
			kinds[item.Kind]++
		}
		errors[item.Valid(m.spoiled(l, 2))]++
		c := m.class()
		if err := class.Valid(c); err != api.OK {
			t.Fatalf("%s has the error %d", show(c), err)
		}
		c = m.spoiledClass(c)
		err := class.Valid(c)
		classes[err]++
		if err == api.OK && !blocksAreValid(c) {
			wrongBlocks++
		}
	}
	for kind := api.ItHard; kind <= api.ItSolve; kind++ {
		if kinds[kind] < 100 {
			t.Errorf("%d constraints are of the kind %d", kinds[kind], kind)
		}
	}
	for _, counts := range []map[api.Errno]int{errors, classes} {
		if counts[api.OK] < 100 || counts[api.ErrArg] < 50 || counts[api.ErrName] < 50 {
			t.Errorf("the errors are %v and %v", errors, classes)
		}
	}
	if classes[api.ErrLimit] < 5 || classes[api.ErrDuplicate] < 50 || wrongBlocks < 50 {
		t.Errorf("the errors of classes are %v; the blocks of %d are wrong", classes, wrongBlocks)
	}
}

func blocksAreValid(c api.Class) bool {
	for _, b := range c.Blocks {
		if item.Valid(b.Items) != api.OK {
			return false
		}
	}
	return true
}
