package expr

import (
	"strconv"
	"testbench/api"
	"testbench/word"
)

// Eval returns the value of e with the signals.
func Eval(e api.Expr, env []api.Signal) (int, api.Errno) {
	if Valid(e) != api.OK {
		return 0, api.ErrArg
	}
	known := true
	var value func(node api.Expr) int
	value = func(node api.Expr) int {
		var room [mostInside]int
		operands := room[:len(node.Args)]
		for i, arg := range node.Args {
			operands[i] = value(arg)
		}
		n, isKnown := valueOf(node, operands, env)
		known = known && isKnown
		return n
	}
	n := value(e)
	if !known {
		return 0, api.ErrName
	}
	return n, api.OK
}

// valueOf returns the value of a node whose operands have the values, and whether the signals give one to its name.
func valueOf(node api.Expr, operands []int, env []api.Signal) (int, bool) {
	switch node.Op {
	case api.ExConst:
		return node.N, true
	case api.ExVar:
		return variable(env, node.Name)
	case api.ExElem:
		_, isKnown := element(env, node.Name, 0)
		n, _ := element(env, node.Name, operands[0])
		return n, isKnown
	case api.ExSum:
		_, isKnown := element(env, node.Name, 0)
		return sum(env, node.Name), isKnown
	}
	return computed(node.Op, operands), true
}

// variable returns the value of the first signal with the name; 0 if there is none.
func variable(env []api.Signal, name string) (int, bool) {
	for _, signal := range env {
		if signal.Name == name {
			return word.Wrap(signal.Value), true
		}
	}
	return 0, false
}

// element returns the value of the element of the array with the number i, which is not negative; 0 if there is none.
func element(env []api.Signal, array string, i int) (int, bool) {
	if i >= api.MaxSize {
		return 0, false
	}
	return variable(env, array+"["+strconv.Itoa(i)+"]")
}

// sum returns the sum of all elements of the array.
func sum(env []api.Signal, array string) int {
	total := 0
	for i := range api.MaxSize {
		n, _ := element(env, array, i)
		total = word.Add(total, n)
	}
	return total
}

// computed returns the value of an operator that takes all from its operands.
func computed(op int, v []int) int {
	switch op {
	case api.ExNot:
		return truth(v[0] == 0)
	case api.ExInv:
		return word.Inv(v[0])
	case api.ExNeg:
		return word.Neg(v[0])
	case api.ExOnes:
		return word.Ones(v[0])
	case api.ExAdd:
		return word.Add(v[0], v[1])
	case api.ExSub:
		return word.Sub(v[0], v[1])
	case api.ExMul:
		return word.Mul(v[0], v[1])
	case api.ExShl:
		return word.Shl(v[0], v[1])
	case api.ExShr:
		return word.Shr(v[0], v[1])
	case api.ExAnd:
		return v[0] & v[1]
	case api.ExOr:
		return v[0] | v[1]
	case api.ExXor:
		return v[0] ^ v[1]
	case api.ExEq:
		return truth(v[0] == v[1])
	case api.ExNe:
		return truth(v[0] != v[1])
	case api.ExLt:
		return truth(v[0] < v[1])
	case api.ExLe:
		return truth(v[0] <= v[1])
	case api.ExBoth:
		return truth(v[0] != 0 && v[1] != 0)
	case api.ExEither:
		return truth(v[0] != 0 || v[1] != 0)
	case api.ExImplies:
		return truth(v[0] == 0 || v[1] != 0)
	case api.ExIf:
		if v[0] != 0 {
			return v[1]
		}
		return v[2]
	}
	return truth(inside(v[0], v[1:]))
}

// inside reports whether n is in one of the ranges, which are given by their first and last numbers.
func inside(n int, ranges []int) bool {
	for i := 0; i < len(ranges); i += 2 {
		if n >= ranges[i] && n <= ranges[i+1] {
			return true
		}
	}
	return false
}

func truth(b bool) int {
	if b {
		return 1
	}
	return 0
}
