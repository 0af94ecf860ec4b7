package item_test

import (
	"fmt"
	"reflect"
	"regexp"
	"slices"
	"strings"

	"testbench/api"
	"testbench/expr"
	"testbench/exprtext"
)

const (
	keywords = "class extends rand randc state constraint soft dist if else each in solve before inside property seq and or not set hold plain repeat"
	longName = "a123456789_BCDEF" // a name with the most bytes
)

var (
	modelName    = regexp.MustCompile(`^[a-z][a-zA-Z0-9_]{0,15}$`)
	modelElement = regexp.MustCompile(`^(.*)\[([0-7])\]$`)
	// usedFields has the fields that each kind uses.
	usedFields = map[int]string{api.ItHard: "Expr", api.ItSoft: "Expr", api.ItDist: "Name Weights", api.ItIf: "Expr Items Else", api.ItEach: "Name Index Items", api.ItSolve: "Before After"}
)

// ex returns the expression with the text.
func ex(text string) api.Expr {
	e, _, err := exprtext.Parse(text)
	if err != api.OK {
		panic(fmt.Sprintf("%q has the error %d", text, err))
	}
	return e
}

func hard(text string) api.Item {
	return api.Item{Kind: api.ItHard, Expr: ex(text)}
}

func soft(text string) api.Item {
	return api.Item{Kind: api.ItSoft, Expr: ex(text)}
}

func dist(name string, weights ...api.Weight) api.Item {
	return api.Item{Kind: api.ItDist, Name: name, Weights: append(weights, api.Weight{Lo: 1, Hi: 2, Weight: 3})}
}

func when(text string, items ...api.Item) api.Item {
	return api.Item{Kind: api.ItIf, Expr: ex(text), Items: items}
}

func otherwise(item api.Item, items ...api.Item) api.Item {
	item.Else = items
	return item
}

func each(index, array string, items ...api.Item) api.Item {
	return api.Item{Kind: api.ItEach, Name: array, Index: index, Items: items}
}

func solve(before, after string) api.Item {
	return api.Item{Kind: api.ItSolve, Before: strings.Fields(before), After: strings.Fields(after)}
}

func list(items ...api.Item) []api.Item {
	return items
}

// field returns a field, only whose name and size have a meaning.
func field(name string, size int) api.Field {
	return api.Field{Name: name, Size: size}
}

// simple returns a class with the fields a, b and c, and with the arrays d, e and f of 3, 1 and 8 elements.
func simple() api.Class {
	return api.Class{Fields: []api.Field{field("a", 0), field("d", 3), field("b", 0), field("e", 1), field("c", 0), field("f", 8)}}
}

// part is a constraint with the constraints that contain it; inElse tells of each of these whether it has the constraint in its Else.
type part struct {
	api.Item
	around []api.Item
	inElse []bool
}

// parts returns the constraints in their order.
func parts(l []api.Item) []part {
	var found []part
	var waiting []part
	push := func(l []api.Item, around []api.Item, inElse []bool) {
		for _, item := range slices.Backward(l) {
			waiting = append(waiting, part{item, around, inElse})
		}
	}
	push(l, nil, nil)
	for len(waiting) > 0 {
		last := len(waiting) - 1
		next := waiting[last]
		waiting = waiting[:last]
		found = append(found, next)
		around := slices.Concat(next.around, list(next.Item))
		push(next.Else, around, slices.Concat(next.inElse, []bool{true}))
		push(next.Items, around, slices.Concat(next.inElse, []bool{false}))
	}
	return found
}

// nesting follows its definition.
func (p part) nesting() int {
	count := 0
	for _, item := range p.around {
		if item.Kind == api.ItIf || item.Kind == api.ItEach {
			count++
		}
	}
	return count
}

// bound returns the indices that are bound where the constraint stands.
func (p part) bound() []string {
	var names []string
	for i, item := range p.around {
		if item.Kind == api.ItEach && !p.inElse[i] {
			names = append(names, item.Index)
		}
	}
	return names
}

// preorder returns the nodes of e in their order.
func preorder(e api.Expr) []api.Expr {
	found := []api.Expr{e}
	for _, arg := range e.Args {
		found = append(found, preorder(arg)...)
	}
	return found
}

func isModelName(s string) bool {
	return modelName.MatchString(s) && !slices.Contains(strings.Fields(keywords), s)
}

func isModelVariable(s string) bool {
	found := modelElement.FindStringSubmatch(s)
	return isModelName(s) || found != nil && isModelName(found[1])
}

// modelValid follows P11.1.
func modelValid(l []api.Item) api.Errno {
	all := parts(l)
	if len(all) > 64 {
		return api.ErrLimit
	}
	for _, p := range all {
		if err := modelFault(p); err != api.OK {
			return err
		}
	}
	return api.OK
}

func modelFault(p part) api.Errno {
	used, known := usedFields[p.Kind]
	if !known {
		return api.ErrArg
	}
	v := reflect.ValueOf(plain(p.Item))
	for i := range v.NumField() {
		name := v.Type().Field(i).Name
		if name != "Kind" && !slices.Contains(strings.Fields(used), name) && !v.Field(i).IsZero() {
			return api.ErrArg
		}
	}
	if p.nesting() > 4 || p.nesting() > 0 && (p.Kind == api.ItDist || p.Kind == api.ItSolve) {
		return api.ErrArg
	}
	switch p.Kind {
	case api.ItDist:
		return modelDist(p.Item)
	case api.ItSolve:
		if len(p.Before) == 0 || len(p.After) == 0 {
			return api.ErrArg
		}
		return modelNames(isModelVariable, append(slices.Clone(p.Before), p.After...)...)
	case api.ItEach:
		return modelNames(isModelName, p.Name, p.Index)
	}
	return expr.Valid(p.Expr)
}

func modelDist(item api.Item) api.Errno {
	if len(item.Weights) > 16 {
		return api.ErrLimit
	}
	if len(item.Weights) == 0 {
		return api.ErrArg
	}
	for _, w := range item.Weights {
		if !(0 <= w.Lo && w.Lo <= w.Hi && w.Hi <= 65535) || !(0 <= w.Weight && w.Weight <= 1000) {
			return api.ErrArg
		}
	}
	return modelNames(isModelVariable, item.Name)
}

func modelNames(isRight func(s string) bool, names ...string) api.Errno {
	for _, name := range names {
		if !isRight(name) {
			return api.ErrName
		}
	}
	return api.OK
}

// scope has what the names of a class mean.
type scope struct{ plain, arrays, variables map[string]bool }

// scopeOf returns the scope of a class no two of whose fields have the same name.
func scopeOf(c api.Class) scope {
	s := scope{map[string]bool{}, map[string]bool{}, map[string]bool{}}
	for _, f := range c.Fields {
		if f.Size == 0 {
			s.plain[f.Name], s.variables[f.Name] = true, true
			continue
		}
		s.arrays[f.Name] = true
		for k := range min(f.Size, 8) {
			s.variables[fmt.Sprintf("%s[%d]", f.Name, k)] = true
		}
	}
	return s
}

// modelCheck follows P11.2.
func modelCheck(l []api.Item, c api.Class) api.Errno {
	if err := modelValid(l); err != api.OK {
		return err
	}
	s := scopeOf(c)
	for _, p := range parts(l) {
		if err := s.fault(p); err != api.OK {
			return err
		}
	}
	return api.OK
}

func (s scope) fault(p part) api.Errno {
	switch p.Kind {
	case api.ItDist, api.ItSolve:
		names := slices.Concat(p.Before, p.After)
		if p.Kind == api.ItDist {
			names = []string{p.Name}
		}
		return modelNames(func(name string) bool { return s.variables[name] || s.arrays[name] }, names...)
	case api.ItEach:
		if err := s.array(p.Name); err != api.OK {
			return err
		}
		if s.plain[p.Index] || s.arrays[p.Index] || slices.Contains(p.bound(), p.Index) {
			return api.ErrDuplicate
		}
		return api.OK
	}
	return s.expr(p.Expr, p.bound())
}

func (s scope) expr(e api.Expr, bound []string) api.Errno {
	for _, node := range preorder(e) {
		err := api.OK
		switch node.Op {
		case api.ExElem, api.ExSum:
			err = s.array(node.Name)
		case api.ExVar:
			if !slices.Contains(bound, node.Name) {
				err = s.variable(node.Name)
			}
		}
		if err != api.OK {
			return err
		}
	}
	return api.OK
}

func (s scope) array(name string) api.Errno {
	if s.arrays[name] {
		return api.OK
	}
	if s.plain[name] {
		return api.ErrType
	}
	return api.ErrName
}

func (s scope) variable(name string) api.Errno {
	if s.variables[name] {
		return api.OK
	}
	found := modelElement.FindStringSubmatch(name)
	if s.arrays[name] || found != nil && s.plain[found[1]] {
		return api.ErrType
	}
	return api.ErrName
}

// modelNamesOf follows P11.4.
func modelNamesOf(l []api.Item) []string {
	var names []string
	for _, p := range parts(l) {
		bound := p.bound()
		switch p.Kind {
		case api.ItHard, api.ItSoft, api.ItIf:
			for _, node := range preorder(p.Expr) {
				if node.Op == api.ExElem || node.Op == api.ExSum || node.Op == api.ExVar && !slices.Contains(bound, node.Name) {
					names = append(names, node.Name)
				}
			}
		case api.ItDist, api.ItEach:
			names = append(names, p.Name)
		case api.ItSolve:
			names = append(append(names, p.Before...), p.After...)
		}
	}
	var once []string
	for i, name := range names {
		if !slices.Contains(names[:i], name) {
			once = append(once, name)
		}
	}
	return once
}
