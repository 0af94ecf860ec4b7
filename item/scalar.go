package item

import (
	"strconv"
	"testbench/api"
	"testbench/expr"
)

// scalar returns e, whose names are those of the class, without ExElem and ExSum. Each part of the result is valid, so that no part can become much too large before the error is found.
func (f fields) scalar(e api.Expr) (api.Expr, api.Errno) {
	args := make([]api.Expr, len(e.Args))
	for i, arg := range e.Args {
		part, err := f.scalar(arg)
		if err != api.OK {
			return api.Expr{}, err
		}
		args[i] = part
	}
	e.Args = args
	switch e.Op {
	case api.ExElem:
		e = f.element(e.Name, args[0])
	case api.ExSum:
		e = f.sum(e.Name)
	}
	if expr.Valid(e) != api.OK {
		return api.Expr{}, api.ErrLimit
	}
	return e, api.OK
}

// element returns the element of the array with the index, which is scalar.
func (f fields) element(array string, index api.Expr) api.Expr {
	if index.Op == api.ExConst {
		if index.N < f[array] {
			return variable(array, index.N)
		}
		return constant(0)
	}
	return f.choice(array, index, 0)
}

// choice returns the element of the array with the index, which is at least k.
func (f fields) choice(array string, index api.Expr, k int) api.Expr {
	if k == f.length(array) {
		return constant(0)
	}
	isHere := api.Expr{Op: api.ExEq, Args: []api.Expr{clone(index), constant(k)}}
	return api.Expr{Op: api.ExIf, Args: []api.Expr{isHere, variable(array, k), f.choice(array, index, k+1)}}
}

// sum returns the sum of the elements of the array.
func (f fields) sum(array string) api.Expr {
	total := variable(array, 0)
	for k := 1; k < f.length(array); k++ {
		total = api.Expr{Op: api.ExAdd, Args: []api.Expr{total, variable(array, k)}}
	}
	return total
}

// length returns the number of elements of the array, or, if it has more than an array may have, a number of them that includes one without a valid name.
func (f fields) length(array string) int {
	return min(f[array], api.MaxSize+1)
}

// variable returns the element of the array with the index.
func variable(array string, index int) api.Expr {
	return api.Expr{Op: api.ExVar, Name: array + "[" + strconv.Itoa(index) + "]"}
}
