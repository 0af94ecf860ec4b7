package exprtext

import (
	"testbench/api"
)

// The levels of the grammar that do not stand in the table of the binary operators alone.
const (
	levelIf      = 1
	levelImplies = 2
	levelInside  = 9
	levelPrefix  = 13
	levelPrimary = 14
)

const (
	inside = "inside"
	sum    = "sum"
	ones   = "ones"
)

// binary is an operator between two operands, which swapped exchanges.
type binary struct {
	mark      string
	level, op int
	swapped   bool
}

// prefix is an operator in front of its operand.
type prefix struct {
	mark string
	op   int
}

var binaries = []binary{
	{"=>", levelImplies, api.ExImplies, false},
	{"||", 3, api.ExEither, false},
	{"&&", 4, api.ExBoth, false},
	{"|", 5, api.ExOr, false},
	{"^", 6, api.ExXor, false},
	{"&", 7, api.ExAnd, false},
	{"==", 8, api.ExEq, false},
	{"!=", 8, api.ExNe, false},
	{"<", levelInside, api.ExLt, false},
	{"<=", levelInside, api.ExLe, false},
	{">", levelInside, api.ExLt, true},
	{">=", levelInside, api.ExLe, true},
	{"<<", 10, api.ExShl, false},
	{">>", 10, api.ExShr, false},
	{"+", 11, api.ExAdd, false},
	{"-", 11, api.ExSub, false},
	{"*", 12, api.ExMul, false},
}

var prefixes = []prefix{
	{"!", api.ExNot},
	{"~", api.ExInv},
	{"-", api.ExNeg},
}

// binaryMarked returns the binary operator with the mark.
func binaryMarked(mark string) (binary, bool) {
	for _, b := range binaries {
		if b.mark == mark {
			return b, true
		}
	}
	return binary{}, false
}

// binaryFor returns the binary operator that an expression with the operator op is printed with.
func binaryFor(op int) (binary, bool) {
	for _, b := range binaries {
		if b.op == op && !b.swapped {
			return b, true
		}
	}
	return binary{}, false
}

// prefixMarked returns the prefix with the mark.
func prefixMarked(mark string) (prefix, bool) {
	for _, p := range prefixes {
		if p.mark == mark {
			return p, true
		}
	}
	return prefix{}, false
}

// prefixFor returns the prefix of an expression with the operator op.
func prefixFor(op int) (prefix, bool) {
	for _, p := range prefixes {
		if p.op == op {
			return p, true
		}
	}
	return prefix{}, false
}

// operandLevels returns the levels that the places of a binary operator's operands require.
func operandLevels(level int) (left, right int) {
	if level == levelImplies {
		return level + 1, level
	}
	return level, level + 1
}

// levelOf returns the level of an expression with the operator op.
func levelOf(op int) int {
	switch op {
	case api.ExIf:
		return levelIf
	case api.ExInside:
		return levelInside
	}
	if b, found := binaryFor(op); found {
		return b.level
	}
	if _, found := prefixFor(op); found {
		return levelPrefix
	}
	return levelPrimary
}
