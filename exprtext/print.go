package exprtext

import (
	"strings"
	"testbench/api"
	"testbench/num"
)

// text returns the text of a valid expression in a place that requires the level.
func text(e api.Expr, level int) string {
	if levelOf(e.Op) < level {
		return "(" + bare(e) + ")"
	}
	return bare(e)
}

// bare returns the text of a valid expression without parentheses around it.
func bare(e api.Expr) string {
	switch e.Op {
	case api.ExConst:
		return num.Format(e.N)
	case api.ExVar:
		return variableText(e.Name)
	case api.ExElem:
		return e.Name + "[" + text(e.Args[0], levelIf) + "]"
	case api.ExSum:
		return sum + "(" + e.Name + ")"
	case api.ExOnes:
		return ones + "(" + text(e.Args[0], levelIf) + ")"
	case api.ExIf:
		return text(e.Args[0], levelIf+1) + " ? " + text(e.Args[1], levelIf) + " : " + text(e.Args[2], levelIf)
	case api.ExInside:
		return text(e.Args[0], levelInside) + " " + inside + " { " + rangesText(e.Args[1:]) + " }"
	}
	if p, found := prefixFor(e.Op); found {
		return p.mark + text(e.Args[0], levelPrefix)
	}
	b, _ := binaryFor(e.Op)
	left, right := operandLevels(b.level)
	return text(e.Args[0], left) + " " + b.mark + " " + text(e.Args[1], right)
}

// variableText returns the text of a variable name: "d[2]" is written as "d@2".
func variableText(name string) string {
	array, index, isElement := strings.Cut(name, "[")
	if isElement {
		return array + "@" + strings.TrimSuffix(index, "]")
	}
	return name
}

// rangesText returns the text of ranges, which are given by their first and last numbers.
func rangesText(bounds []api.Expr) string {
	var texts []string
	for i := 0; i < len(bounds); i += 2 {
		texts = append(texts, text(bounds[i], levelIf)+" .. "+text(bounds[i+1], levelIf))
	}
	return strings.Join(texts, ", ")
}
