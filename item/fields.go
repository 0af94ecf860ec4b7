package item

import (
	"slices"
	"strconv"
	"strings"
	"testbench/api"
)

// fields has the sizes of the fields of a class by their names; of fields with the same name the first one counts.
type fields map[string]int

func fieldsOf(c api.Class) fields {
	f := fields{}
	for _, field := range slices.Backward(c.Fields) {
		f[field.Name] = field.Size
	}
	return f
}

// hasArray reports whether the name is that of an array.
func (f fields) hasArray(name string) bool {
	return f[name] > 0
}

// hasPlain reports whether the name is that of a field without a size.
func (f fields) hasPlain(name string) bool {
	size, found := f[name]
	return found && size <= 0
}

// hasVariable reports whether the name is that of a variable of the class.
func (f fields) hasVariable(name string) bool {
	array, index, isElement := cutElement(name)
	return f.hasPlain(name) || isElement && index < f[array]
}

// mistakesPlain reports whether the name is that of an element of a field without a size.
func (f fields) mistakesPlain(name string) bool {
	array, _, isElement := cutElement(name)
	return isElement && f.hasPlain(array)
}

// check returns the error that a valid constraint has for the fields, whatever those of the constraints that it contains are.
func (f fields) check(item api.Item, bound map[string]int) api.Errno {
	switch item.Kind {
	case api.ItDist, api.ItSolve:
		if slices.ContainsFunc(namesOf(item, bound), f.isUnknown) {
			return api.ErrName
		}
		return api.OK
	case api.ItEach:
		return f.checkEach(item, bound)
	}
	return f.checkExpr(item.Expr, bound)
}

// isUnknown reports whether the name is neither that of a variable nor that of an array.
func (f fields) isUnknown(name string) bool {
	return f.mistakesPlain(name) || !f.hasVariable(name) && !f.hasArray(name)
}

func (f fields) checkEach(item api.Item, bound map[string]int) api.Errno {
	if err := f.checkArray(item.Name); err != api.OK {
		return err
	}
	if _, isField := f[item.Index]; isField || bound[item.Index] > 0 {
		return api.ErrDuplicate
	}
	return api.OK
}

// checkExpr returns the error of the first node that has one for the fields.
func (f fields) checkExpr(e api.Expr, bound map[string]int) api.Errno {
	for node := range nodes(e) {
		err := api.OK
		switch {
		case isArray(node.Op):
			err = f.checkArray(node.Name)
		case node.Op == api.ExVar && bound[node.Name] == 0:
			err = f.checkVariable(node.Name)
		}
		if err != api.OK {
			return err
		}
	}
	return api.OK
}

func (f fields) checkArray(name string) api.Errno {
	switch {
	case f.hasPlain(name):
		return api.ErrType
	case !f.hasArray(name):
		return api.ErrName
	}
	return api.OK
}

func (f fields) checkVariable(name string) api.Errno {
	switch {
	case f.hasArray(name), f.mistakesPlain(name):
		return api.ErrType
	case !f.hasVariable(name):
		return api.ErrName
	}
	return api.OK
}

// cutElement returns the array and the index of a variable name that is an element name.
func cutElement(name string) (array string, index int, isElement bool) {
	array, rest, _ := strings.Cut(name, "[")
	index, err := strconv.Atoi(strings.TrimSuffix(rest, "]"))
	if err != nil {
		return "", 0, false
	}
	return array, index, true
}
