package exprtext_test

import (
	"fmt"
	"strings"
	"testing"

	"testbench/api"
	"testbench/expr"
	"testbench/exprtext"
)

func checkParse(t *testing.T, s string, want api.Expr, wantLine int, wantErr api.Errno) {
	t.Helper()
	got, line, err := exprtext.Parse(s)
	if !equal(got, want) || line != wantLine || err != wantErr {
		t.Errorf("Parse(%.200q) = %s, %d, %d; want %s, %d, %d", s, show(got), line, err, show(want), wantLine, wantErr)
	}
}

// P9.3
func TestParse(t *testing.T) {
	a, b, c, x, y := variable("a"), variable("b"), variable("c"), variable("x"), variable("y")
	set := node(api.ExInside, x, number(1), number(3), number(5), number(5))
	implied := node(api.ExImplies, set, node(api.ExLt, number(2), y))
	for source, want := range map[string]api.Expr{
		"a": a, "a+b*c": node(api.ExAdd, a, node(api.ExMul, b, c)), "(a + b) * c": node(api.ExMul, node(api.ExAdd, a, b), c), "d[2]": element("d", number(2)), "d@2": variable("d[2]"), "d @ // the third\n 2": variable("d[2]"), "sum\n(d)": total("d"),
		"x inside { 1 .. 3, 5 .. 5 } => y > 2": implied, "x inside { 1 .. 3, 5 .. 5 } => 2 < y": implied, "x inside{1..3,5..5}=>y>2": implied, "\n\t x // x\n inside { 1\n .. 3, 5 .. 5 }\n\n => y > 2\n//": implied,
		"a--b": node(api.ExSub, a, node(api.ExNeg, b)), "!a!=b": node(api.ExNe, node(api.ExNot, a), b), "a&&b&c": node(api.ExBoth, a, node(api.ExAnd, b, c)), "a>=b": node(api.ExLe, b, a), "a>>b": node(api.ExShr, a, b),
	} {
		checkParse(t, source, want, 0, api.OK)
	}
	checkPrint(t, implied, "x inside { 1 .. 3, 5 .. 5 } => 2 < y")
}

// P9.3: the errors and their lines.
func TestParseErrors(t *testing.T) {
	deep := strings.Repeat("-", api.MaxDepth) + "a"
	for source, want := range map[string]struct {
		line int
		err  api.Errno
	}{
		"a +": {1, api.ErrTruncated}, "a b": {1, api.ErrSyntax}, "70000": {1, api.ErrOverflow},
		// Those of lexer.Tokens come first.
		"a + %": {1, api.ErrSyntax}, ") \n %": {2, api.ErrSyntax}, "70000\n\n012": {3, api.ErrSyntax}, "a @ 9 \n 2147483648": {2, api.ErrOverflow}, "a + \n" + longName + "x": {2, api.ErrLimit}, strings.Repeat(" ", api.MaxSource) + "%": {0, api.ErrLimit}, "a\n_": {2, api.ErrSyntax}, "A": {1, api.ErrSyntax},
		// A text that ends too early has the line of its last token.
		"": {1, api.ErrTruncated}, "\n\n": {1, api.ErrTruncated}, "//": {1, api.ErrTruncated}, "\n//(\n": {1, api.ErrTruncated}, "\n(\n": {2, api.ErrTruncated}, "a\n+\n\n//a\n": {2, api.ErrTruncated}, "a [\n1": {2, api.ErrTruncated}, "\na ? b": {2, api.ErrTruncated},
		"\n)": {2, api.ErrSyntax}, "a\n+\n+": {3, api.ErrSyntax}, "a\n+ \n * b\n": {3, api.ErrSyntax}, "( a\n+\n\nb\nc\n)": {5, api.ErrSyntax}, "a\n+ ( // b\n\n if )": {4, api.ErrSyntax}, "a inside { 1 .. 2,\n}": {2, api.ErrSyntax},
		"\n70000": {2, api.ErrOverflow}, "a\n+\n65536 )": {3, api.ErrOverflow}, "65536\n+": {1, api.ErrOverflow}, "65536\n\n(": {1, api.ErrOverflow}, "65536\n\n+ )": {1, api.ErrOverflow}, "a @\n70000": {2, api.ErrOverflow}, "a\n+ )\n70000": {2, api.ErrSyntax},
		// Then those of the first token behind the expression.
		"a\nb": {2, api.ErrSyntax}, "a\n\n70000": {3, api.ErrSyntax}, "a + b )": {1, api.ErrSyntax}, "a\n( b )": {2, api.ErrSyntax}, "1\n[ 2 ]": {2, api.ErrSyntax}, "a = b\n": {1, api.ErrSyntax}, "a\n;\n;": {2, api.ErrSyntax}, "a +\nb if": {2, api.ErrSyntax}, "d@2\n[1]": {2, api.ErrSyntax}, "(a)\n\n[1]": {3, api.ErrSyntax}, "a\n->b": {2, api.ErrSyntax}, "a\n:": {2, api.ErrSyntax}, "b(\na)": {1, api.ErrSyntax}, "b\n(\na)": {2, api.ErrSyntax},
		"a @ 9\n\nb": {3, api.ErrSyntax}, deep + "\n)": {2, api.ErrSyntax},
		// And then those of expr.Valid.
		"a @ 9": {0, api.ErrName}, "\n\na @ 8\n": {0, api.ErrName}, deep: {0, api.ErrLimit}, "\n" + deep: {0, api.ErrLimit}, deep + "@8": {0, api.ErrName}, "a" + strings.Repeat("+a", 200): {0, api.ErrLimit}, "a inside {1..2" + strings.Repeat(",1..2", 16) + "}": {0, api.ErrArg},
	} {
		checkParse(t, source, api.Expr{}, want.line, want.err)
	}
	checkParse(t, deep[1:], chain(api.MaxDepth-1, variable("a")), 0, api.OK)
}

// chain returns e below n nodes.
func chain(n int, e api.Expr) api.Expr {
	for range n {
		e = node(api.ExNeg, e)
	}
	return e
}

// P9.3, P9.6: Parse agrees with the grammar, and with Take of the tokens, for any blanks and comments.
func TestParseRandomTexts(t *testing.T) {
	m := newMaker(5)
	for range 1000 {
		list := m.spoiled(m.loose(m.expression()), m.token)
		source, lined := m.source(list)
		want, line, err := modelParse(lined)
		checkParse(t, source, want, line, err)
		checkAgreement(t, source, lined)
	}
}

// checkAgreement compares Parse with Take of the tokens.
func checkAgreement(t *testing.T, source string, l []api.Token) {
	t.Helper()
	parsed, line, err := exprtext.Parse(source)
	taken, end, takenErr := exprtext.Take(l, 0)
	switch {
	case takenErr == api.OK && end == len(l):
		checkParse(t, source, taken, 0, api.OK)
	case takenErr == api.OK:
		checkParse(t, source, api.Expr{}, l[end].Line, api.ErrSyntax)
	case takenErr == api.ErrName || takenErr == api.ErrArg || takenErr == api.ErrLimit:
		// A token behind the expression counts before these.
		if err != takenErr && err != api.ErrSyntax || err == takenErr && line != 0 {
			t.Errorf("Parse(%.200q) = %s, %d, %d; Take has the error %d", source, show(parsed), line, err, takenErr)
		}
	case len(l) == 0:
		checkParse(t, source, api.Expr{}, 1, takenErr)
	default:
		checkParse(t, source, api.Expr{}, l[min(end, len(l)-1)].Line, takenErr)
	}
}

// large returns a valid expression with nearly as many nodes as there may be, and with long names.
func large() api.Expr {
	e := variable(longName + "[7]")
	for len(nodesOf(e)) < api.MaxExpr-40 {
		e = node(api.ExInside, e, element(longName, total(longName)), node(api.ExIf, number(65535), chain(5, number(65535)), variable(longName)))
		for range 14 {
			e.Args = append(e.Args, variable(longName+"[7]"), total(longName))
		}
	}
	return e
}

// P9.4
func TestRoundTrip(t *testing.T) {
	m := newMaker(6)
	list := []api.Expr{chain(api.MaxDepth-1, variable("a")), widest(), large()}
	for range 3000 {
		list = append(list, m.expr(1+m.Intn(7)))
	}
	for _, e := range list {
		if expr.Valid(e) != api.OK {
			continue
		}
		s := exprtext.Print(e)
		if s == "" || len(s) > api.MaxSource {
			t.Fatalf("Print(%s) has %d bytes", show(e), len(s))
		}
		checkParse(t, s, e, 0, api.OK)
	}
	if err := expr.Valid(large()); err != api.OK {
		t.Errorf("the large expression has the error %d", err)
	}
}

// widest returns a node with the most operands.
func widest() api.Expr {
	e := api.Expr{Op: api.ExInside}
	for i := range 33 {
		e.Args = append(e.Args, number(i))
	}
	return e
}

// P9.5: what was parsed is printed canonically, whatever the text was like, and parentheses around all of it change nothing.
func TestCanonical(t *testing.T) {
	m := newMaker(7)
	for range 500 {
		e := m.expression()
		canonical := exprtext.Print(e)
		source, _ := m.source(m.loose(e))
		checkParse(t, source, e, 0, api.OK)
		parsed, _, _ := exprtext.Parse(source)
		checkPrint(t, parsed, canonical)
		reparsed, _, _ := exprtext.Parse(exprtext.Print(parsed))
		if !equal(reparsed, parsed) {
			t.Errorf("the text of %s is parsed to %s", show(parsed), show(reparsed))
		}
		checkParse(t, "("+source+")", e, 0, api.OK)
		checkParse(t, "(("+canonical+"))", e, 0, api.OK)
	}
	const n = (api.MaxSource - 1) / 2
	checkParse(t, strings.Repeat("(", n)+"a"+strings.Repeat(")", n), variable("a"), 0, api.OK)
	checkParse(t, strings.Repeat("(", n+1)+"a"+strings.Repeat(")", n), api.Expr{}, 1, api.ErrTruncated)
	checkParse(t, strings.Repeat("(", n+1)+"a"+strings.Repeat(")", n+1), api.Expr{}, 0, api.ErrLimit)
}

// P9.6: a text with the fewest blanks has the same meaning.
func TestLayout(t *testing.T) {
	m := newMaker(8)
	for range 1000 {
		e := m.expression()
		text := exprtext.Print(e)
		tight := strings.ReplaceAll(strings.ReplaceAll(text, " ", ""), "inside{", " inside{")
		checkParse(t, tight, e, 0, api.OK)
		wide := strings.ReplaceAll(text, " ", fmt.Sprintf(" //%s\n\t", text))
		if len(wide) <= api.MaxSource {
			checkParse(t, wide, e, 0, api.OK)
		}
	}
}

// P9.3: results share no memory.
func TestParseMemory(t *testing.T) {
	m := newMaker(9)
	for range 300 {
		s := exprtext.Print(m.expression())
		first, _, _ := exprtext.Parse(s)
		second, _, _ := exprtext.Parse(s)
		checkNew(t, first, second)
	}
}
