package exprtext_test

import (
	"math"
	"slices"
	"strings"
	"testing"

	"testbench/api"
	"testbench/expr"
	"testbench/exprtext"
)

func checkTake(t *testing.T, l []api.Token, at int, want api.Expr, wantEnd int, wantErr api.Errno) {
	t.Helper()
	got, end, err := exprtext.Take(l, at)
	if !equal(got, want) || end != wantEnd || err != wantErr {
		t.Errorf("Take(%s, %d) = %s, %d, %d; want %s, %d, %d", show(l), at, show(got), end, err, show(want), wantEnd, wantErr)
	}
}

// checkTakeModel compares Take with the model, and checks that the tokens stay as they are, and that none behind them are used.
func checkTakeModel(t *testing.T, l []api.Token, at int) {
	t.Helper()
	behind := tokens("+ a ) ] }")
	room := slices.Concat(l, behind)
	e, end, err := modelTake(l, at)
	checkTake(t, room[:len(l)], at, e, end, err)
	if !slices.Equal(room[:len(l)], l) || !slices.Equal(room[len(l):], behind) {
		t.Errorf("Take(%s, %d) has changed its tokens", show(l), at)
	}
}

// P9.2: the forms of the grammar.
func TestTakeForms(t *testing.T) {
	a, b, c, d := variable("a"), variable("b"), variable("c"), variable("d")
	one, two := number(1), number(2)
	for source, want := range map[string]api.Expr{
		"0": number(0), "65535": number(65535), "a": a, "sum": variable("sum"), "ones": variable("ones"), "(a)": a, "((1))": one,
		"d[2]": element("d", two), "d@2": variable("d[2]"), "d@0": variable("d[0]"), "d@7": variable("d[7]"), "sum(d)": total("d"), "ones(d)": node(api.ExOnes, d), "ones((a))": node(api.ExOnes, a),
		"sum[1]": element("sum", one), "sum@1": variable("sum[1]"), "ones[1]": element("ones", one), "ones@1": variable("ones[1]"), "sum(sum)": total("sum"), "sum(ones)": total("ones"), "ones(ones)": node(api.ExOnes, variable("ones")), "ones(sum(a))": node(api.ExOnes, total("a")), "sum + ones": node(api.ExAdd, variable("sum"), variable("ones")), "sum (a)": total("a"),
		"!a": node(api.ExNot, a), "~a": node(api.ExInv, a), "-a": node(api.ExNeg, a), "- - a": node(api.ExNeg, node(api.ExNeg, a)), "-5": node(api.ExNeg, number(5)), "-a * b": node(api.ExMul, node(api.ExNeg, a), b), "!a[1]": node(api.ExNot, element("a", one)), "!(a)": node(api.ExNot, a),
		"a * b": node(api.ExMul, a, b), "a + b": node(api.ExAdd, a, b), "a - b": node(api.ExSub, a, b), "a << b": node(api.ExShl, a, b), "a >> b": node(api.ExShr, a, b), "a == b": node(api.ExEq, a, b), "a != b": node(api.ExNe, a, b),
		"a < b": node(api.ExLt, a, b), "a <= b": node(api.ExLe, a, b), "a > b": node(api.ExLt, b, a), "a >= b": node(api.ExLe, b, a), "a > b > c": node(api.ExLt, c, node(api.ExLt, b, a)), "a >= b + c": node(api.ExLe, node(api.ExAdd, b, c), a), "a > b < c": node(api.ExLt, node(api.ExLt, b, a), c),
		"a & b": node(api.ExAnd, a, b), "a ^ b": node(api.ExXor, a, b), "a | b": node(api.ExOr, a, b), "a && b": node(api.ExBoth, a, b), "a || b": node(api.ExEither, a, b), "a => b": node(api.ExImplies, a, b), "a ? b : c": node(api.ExIf, a, b, c),
		"a inside {1..2}": node(api.ExInside, a, one, two), "a inside {1..2, b..c}": node(api.ExInside, a, one, two, b, c), "a inside {a ? b : c .. a => b}": node(api.ExInside, a, node(api.ExIf, a, b, c), node(api.ExImplies, a, b)), "a + b inside {1..2} < c": node(api.ExLt, node(api.ExInside, node(api.ExAdd, a, b), one, two), c), "a < b inside {1..2}": node(api.ExInside, node(api.ExLt, a, b), one, two), "a == b inside {1..2}": node(api.ExEq, a, node(api.ExInside, b, one, two)), "a inside {1..2} inside {1..2}": node(api.ExInside, node(api.ExInside, a, one, two), one, two), "!a inside {1..2}": node(api.ExInside, node(api.ExNot, a), one, two),
		"a - b - c": node(api.ExSub, node(api.ExSub, a, b), c), "a - (b - c)": node(api.ExSub, a, node(api.ExSub, b, c)), "a - b + c": node(api.ExAdd, node(api.ExSub, a, b), c), "a + b * c": node(api.ExAdd, a, node(api.ExMul, b, c)), "(a + b) * c": node(api.ExMul, node(api.ExAdd, a, b), c), "a - -b": node(api.ExSub, a, node(api.ExNeg, b)), "a == b != c": node(api.ExNe, node(api.ExEq, a, b), c), "a << b >> c": node(api.ExShr, node(api.ExShl, a, b), c),
		"a => b => c": node(api.ExImplies, a, node(api.ExImplies, b, c)), "(a => b) => c": node(api.ExImplies, node(api.ExImplies, a, b), c), "a => b ? c : d": node(api.ExIf, node(api.ExImplies, a, b), c, d), "a ? b => c : d": node(api.ExIf, a, node(api.ExImplies, b, c), d), "a ? b : c => d": node(api.ExIf, a, b, node(api.ExImplies, c, d)), "a ? b : c ? d : a": node(api.ExIf, a, b, node(api.ExIf, c, d, a)), "a ? b ? c : d : a": node(api.ExIf, a, node(api.ExIf, b, c, d), a),
		"a || b && c | d ^ a & b": node(api.ExEither, a, node(api.ExBoth, b, node(api.ExOr, c, node(api.ExXor, d, node(api.ExAnd, a, b))))), "a & b ^ c | d && a || b": node(api.ExEither, node(api.ExBoth, node(api.ExOr, node(api.ExXor, node(api.ExAnd, a, b), c), d), a), b), "a & b == c < d << a": node(api.ExAnd, a, node(api.ExEq, b, node(api.ExLt, c, node(api.ExShl, d, a)))),
		"a[b[c]]": element("a", element("b", c)), "a[b ? c : d]": element("a", node(api.ExIf, b, c, d)), "ones(b ? c : d)": node(api.ExOnes, node(api.ExIf, b, c, d)),
	} {
		l := tokensOf(t, source)
		checkTake(t, l, 0, want, len(l), api.OK)
		checkTakeModel(t, l, 0)
		// The expression begins where it is said to, and ends where nothing continues it.
		for _, end := range []string{")", "]", "}", "{", ",", ";", ":", "..", "a", "7", "70000", "!", "~", "(", "=", "->", ":=", ":/", "##", "if", "in"} {
			if end == "(" && (strings.HasSuffix(source, "sum") || strings.HasSuffix(source, "ones")) {
				continue
			}
			checkTake(t, slices.Concat(tokens("+ )"), l, tokens(end)), 2, want, 2+len(l), api.OK)
		}
		for _, wrong := range wrongTokens() {
			checkTake(t, append(slices.Clone(l), wrong), 0, want, len(l), api.OK)
		}
	}
}

// P9.2: behind ranges, only the operators of the same and of lower levels continue the expression.
func TestTakeBehindRanges(t *testing.T) {
	for _, before := range []string{"a inside { 1 .. 2 }", "a == b inside { 1 .. 2 }", "a < b inside { 1 .. 2 }", "a => b inside { 1 .. 2 }", "a ? b : c inside { 1 .. 2 }", "a + b inside { 1 .. 2 } inside { 3 .. 4 , 5 .. 6 }", "- a inside { 1 .. 2 }"} {
		l := tokens(before)
		e, end, err := modelTake(l, 0)
		if end != len(l) || err != api.OK {
			t.Fatalf("%q is no expression", before)
		}
		for _, mark := range strings.Fields("<< >> + - *") {
			checkTake(t, slices.Concat(l, tokens(mark+" b")), 0, e, len(l), api.OK)
			checkTake(t, slices.Concat(tokens("("), l, tokens(mark+" b )")), 0, api.Expr{}, len(l)+1, api.ErrSyntax)
		}
		for _, mark := range strings.Fields("< <= > >= == != & ^ | && || =>") {
			longer := slices.Concat(l, tokens(mark+" b"))
			want, _, _ := modelTake(longer, 0)
			checkTake(t, longer, 0, want, len(longer), api.OK)
			checkTakeModel(t, slices.Concat(longer, tokens("+ c")), 0)
		}
	}
	set := node(api.ExInside, variable("a"), number(1), number(2))
	checkTake(t, tokens("a inside { 1 .. 2 } + b"), 0, set, 7, api.OK)
	checkTake(t, tokens("( a inside { 1 .. 2 } ) + b"), 0, node(api.ExAdd, set, variable("b")), 11, api.OK)
	checkTake(t, tokens("a inside { 1 .. 2 } == b + 1"), 0, node(api.ExEq, set, node(api.ExAdd, variable("b"), number(1))), 11, api.OK)
}

// P9.2: the errors and their indexes.
func TestTakeErrors(t *testing.T) {
	for source, want := range map[string]struct {
		index int
		err   api.Errno
	}{
		"": {0, api.ErrTruncated}, "a +": {2, api.ErrTruncated}, "(": {1, api.ErrTruncated}, "( a": {2, api.ErrTruncated}, "a ?": {2, api.ErrTruncated}, "a ? b": {3, api.ErrTruncated}, "a ? b :": {4, api.ErrTruncated}, "a [": {2, api.ErrTruncated}, "a [ 1": {3, api.ErrTruncated}, "a @": {2, api.ErrTruncated}, "sum (": {2, api.ErrTruncated}, "sum ( a": {3, api.ErrTruncated}, "ones (": {2, api.ErrTruncated}, "ones ( a": {3, api.ErrTruncated}, "a inside": {2, api.ErrTruncated}, "a inside {": {3, api.ErrTruncated}, "a inside { 1": {4, api.ErrTruncated}, "a inside { 1 ..": {5, api.ErrTruncated}, "a inside { 1 .. 2": {6, api.ErrTruncated}, "a inside { 1 .. 2 ,": {7, api.ErrTruncated}, "-": {1, api.ErrTruncated}, "! ~ -": {3, api.ErrTruncated}, "a =>": {2, api.ErrTruncated},
		")": {0, api.ErrSyntax}, "+ a": {0, api.ErrSyntax}, "* a": {0, api.ErrSyntax}, "if": {0, api.ErrSyntax}, "inside": {0, api.ErrSyntax}, "a + )": {2, api.ErrSyntax}, "a + * b": {2, api.ErrSyntax}, "( )": {1, api.ErrSyntax}, "( a b": {2, api.ErrSyntax}, "( a ]": {2, api.ErrSyntax}, "( a , b )": {2, api.ErrSyntax}, "a ? : b": {2, api.ErrSyntax}, "a ? b c": {3, api.ErrSyntax}, "a ? b : :": {4, api.ErrSyntax}, "a ? b )": {3, api.ErrSyntax}, "a [ ]": {2, api.ErrSyntax}, "a [ 1 )": {3, api.ErrSyntax}, "a @ b": {2, api.ErrSyntax}, "a @ -": {2, api.ErrSyntax}, "a @ ( 1 )": {2, api.ErrSyntax},
		"sum ( 1 )": {2, api.ErrSyntax}, "sum ( )": {2, api.ErrSyntax}, "sum ( a + b )": {3, api.ErrSyntax}, "sum ( a [ 1 ] )": {3, api.ErrSyntax}, "sum ( a @ 1 )": {3, api.ErrSyntax}, "sum ( ( a ) )": {2, api.ErrSyntax}, "sum ( in )": {2, api.ErrSyntax}, "ones ( )": {2, api.ErrSyntax}, "ones ( a , b )": {3, api.ErrSyntax},
		"a inside b": {2, api.ErrSyntax}, "a inside ( 1 .. 2 )": {2, api.ErrSyntax}, "a inside { }": {3, api.ErrSyntax}, "a inside { 1 }": {4, api.ErrSyntax}, "a inside { 1 , 2 }": {4, api.ErrSyntax}, "a inside { 1 .. }": {5, api.ErrSyntax}, "a inside { 1 .. 2 .. 3 }": {6, api.ErrSyntax}, "a inside { 1 .. 2 , }": {7, api.ErrSyntax}, "a inside { 1 .. 2 ; }": {6, api.ErrSyntax}, "a inside { .. 2 }": {3, api.ErrSyntax}, "( b ( a": {2, api.ErrSyntax}, "( 1 ( a": {2, api.ErrSyntax}, "( a @ 1 [ 2 ]": {4, api.ErrSyntax}, "( a [ 1 ] [ 2 ]": {5, api.ErrSyntax}, "( ( a ) ( b": {4, api.ErrSyntax},
		"70000": {0, api.ErrOverflow}, "65536": {0, api.ErrOverflow}, "2147483647": {0, api.ErrOverflow}, "a + 70000": {2, api.ErrOverflow}, "70000 + 80000": {0, api.ErrOverflow}, "1 + 70000 + 80000": {2, api.ErrOverflow}, "a @ 70000": {2, api.ErrOverflow}, "( 70000": {1, api.ErrOverflow}, "70000 +": {0, api.ErrOverflow}, "70000 + )": {0, api.ErrOverflow}, "70000 b": {0, api.ErrOverflow}, "a [ 70000": {2, api.ErrOverflow}, "a inside { 1 .. 70000": {5, api.ErrOverflow}, "( a 70000": {2, api.ErrSyntax}, "( ) 70000": {1, api.ErrSyntax}, "sum ( 70000 )": {2, api.ErrSyntax}, "a + ( b + ) + 70000": {5, api.ErrSyntax}, "a @ 9 + 70000": {4, api.ErrOverflow},
		"a @ 8": {0, api.ErrName}, "a @ 9 b": {0, api.ErrName}, "a @ 65535": {0, api.ErrName}, "1 + ( 2 * a @ 10 )": {0, api.ErrName}, "a @ 8 +": {4, api.ErrTruncated}, "a @ 8 + )": {4, api.ErrSyntax},
	} {
		l := tokens(source)
		checkTake(t, l, 0, api.Expr{}, want.index, want.err)
		checkTakeModel(t, l, 0)
		// Tokens before the expression do not matter but for the index.
		index := want.index
		if want.err != api.ErrName {
			index += 3
		}
		checkTake(t, slices.Concat(tokens("70000 ) ("), l), 3, api.Expr{}, index, want.err)
	}
}

// P9.2: the index of the first token.
func TestTakeBeginsAt(t *testing.T) {
	l := tokens("a + b * 3")
	a, b, three := variable("a"), variable("b"), number(3)
	checkTake(t, l, 0, node(api.ExAdd, a, node(api.ExMul, b, three)), 5, api.OK)
	checkTake(t, l, 1, api.Expr{}, 1, api.ErrSyntax)
	checkTake(t, l, 2, node(api.ExMul, b, three), 5, api.OK)
	checkTake(t, l, 4, three, 5, api.OK)
	checkTake(t, l, 5, api.Expr{}, 5, api.ErrTruncated)
	for _, at := range []int{-1, 6, 7, -5, math.MinInt, math.MaxInt} {
		checkTake(t, l, at, api.Expr{}, 0, api.ErrArg)
		// The room behind the tokens is none of them.
		checkTake(t, append(l, l...)[:5], at, api.Expr{}, 0, api.ErrArg)
	}
	checkTake(t, nil, 0, api.Expr{}, 0, api.ErrTruncated)
	checkTake(t, nil, 1, api.Expr{}, 0, api.ErrArg)
	checkTake(t, nil, -1, api.Expr{}, 0, api.ErrArg)
}

// P9.2: a token that is not valid continues nothing.
func TestTakeWrongTokens(t *testing.T) {
	for _, before := range []string{"", "a +", "(", "( a", "a [", "a [ 1", "a @", "a ? b", "sum (", "sum ( a", "ones ( a", "a inside", "a inside {", "a inside { 1", "a inside { 1 .. 2", "- -"} {
		l := tokens(before)
		for _, wrong := range wrongTokens() {
			with := append(slices.Clone(l), wrong)
			checkTake(t, with, 0, api.Expr{}, len(l), api.ErrSyntax)
			checkTake(t, append(with, token(")")), 0, api.Expr{}, len(l), api.ErrSyntax)
		}
	}
	sum := tokens("sum ( a )")
	sum[1].N = 1
	checkTake(t, sum, 0, variable("sum"), 1, api.OK)
	// The line of a token does not matter.
	lines := tokens("a + b")
	lines[0].Line, lines[1].Line, lines[2].Line = -5, math.MaxInt, 0
	checkTake(t, lines, 0, node(api.ExAdd, variable("a"), variable("b")), 3, api.OK)
}

// P9.2: the errors of expr.Valid come last, and have the index 0.
func TestTakeLimits(t *testing.T) {
	minus, plus := strings.Repeat("- ", api.MaxDepth), "a"+strings.Repeat(" - a", 199)
	ranges := "a inside { 1 .. 2" + strings.Repeat(" , 1 .. 2", 15)
	for source, want := range map[string]api.Errno{
		minus + "a": api.ErrLimit, plus: api.ErrLimit, strings.Repeat("( "+plus+" ) * ", 2) + plus: api.ErrLimit, minus + "a @ 8": api.ErrName,
		ranges + " , 1 .. 2 }": api.ErrArg, ranges + " , 1 .. 2 } && a @ 8": api.ErrArg, "a @ 8 + ( " + ranges + " , 1 .. 2 } )": api.ErrName,
	} {
		checkTake(t, tokens(source), 0, api.Expr{}, 0, want)
		checkTake(t, tokens(source+" ; "), 0, api.Expr{}, 0, want)
		// Whatever comes from the left to the right goes ahead of them.
		behind := len(tokens(source)) + 1
		checkTake(t, tokens(source+" && )"), 0, api.Expr{}, behind, api.ErrSyntax)
		checkTake(t, tokens(source+" &&"), 0, api.Expr{}, behind, api.ErrTruncated)
		checkTake(t, tokens(source+" && 65536"), 0, api.Expr{}, behind, api.ErrOverflow)
	}
	checkTakeModel(t, tokens(minus[2:]+"a"), 0)
	checkTakeModel(t, tokens(ranges+" }"), 0)
	checkTakeModel(t, tokens("a"+strings.Repeat(" - a", api.MaxDepth-1)), 0)
	checkTakeModel(t, tokens("a"+strings.Repeat(" - a", api.MaxDepth)), 0)
}

// P9.2: all beginnings of expressions of a few tokens, and each of them with one more token of any kind.
func TestTakeShort(t *testing.T) {
	most := slices.Concat(tokens("a sum ones 1 70000 ( ) { } [ ] , .. ? : => || && | ^ & == != < <= > >= << >> + - * ! ~ @ inside ; class"), []api.Token{{Kind: api.TkMark, Text: "+", N: 1}})
	checkShort(t, most, 4)
	few := tokens("a sum 7 65536 ( ) [ ] { } inside .. , ? : => - < @")
	checkShort(t, few, 5)
	checkShort(t, tokens("a inside { .. , } ? + < =="), 9)
}

func checkShort(t *testing.T, alphabet []api.Token, size int) {
	var extend func(c *chart, l []api.Token)
	extend = func(c *chart, l []api.Token) {
		for _, next := range alphabet {
			longer := append(slices.Clone(l), next)
			if !c.scan(next) {
				checkEnd(t, c, longer)
				continue
			}
			checkEnd(t, c, longer)
			if len(longer) < size {
				extend(c, longer)
			}
			c.undo()
		}
	}
	extend(newChart(), nil)
}

// checkEnd checks Take for tokens of which those in the chart are the longest beginning of an expression.
func checkEnd(t *testing.T, c *chart, l []api.Token) {
	t.Helper()
	end := len(c.sets) - 1
	large := slices.IndexFunc(l[:end], func(token api.Token) bool { return token.N > 65535 })
	switch {
	case large >= 0:
		checkTake(t, l, 0, api.Expr{}, large, api.ErrOverflow)
	case c.complete():
		var texts []string
		for _, token := range l[:end] {
			texts = append(texts, token.Text)
		}
		e, end, err := modelChecked(modelTree(texts), end, api.OK)
		checkTake(t, l, 0, e, end, err)
	case end == len(l):
		checkTake(t, l, 0, api.Expr{}, end, api.ErrTruncated)
	default:
		checkTake(t, l, 0, api.Expr{}, end, api.ErrSyntax)
	}
}

// P9.2
func TestTakeRandomTokens(t *testing.T) {
	m := newMaker(3)
	for range 1500 {
		l := m.spoiled(m.loose(m.expression()), m.anyToken)
		checkTakeModel(t, l, 0)
		checkTakeModel(t, l, m.Intn(len(l)+3)-1)
	}
}

// P9.2: results share no memory.
func TestTakeMemory(t *testing.T) {
	m := newMaker(4)
	for range 200 {
		l := m.loose(m.expression())
		first, _, _ := exprtext.Take(l, 0)
		second, _, _ := exprtext.Take(l, 0)
		checkNew(t, first, second)
	}
}

// nested returns tokens with n times the texts before, then a, and n times the texts after.
func nested(n int, before, after string) []api.Token {
	return slices.Concat(slices.Repeat(tokens(before), n), tokens("a"), slices.Repeat(tokens(after), n))
}

// P9.2: many levels, in each form that has some.
func TestTakeDeep(t *testing.T) {
	const n = levels - 1
	checkTake(t, nested(n, "(", ")"), 0, variable("a"), 2*n+1, api.OK)
	checkTake(t, nested(n, "(", ")")[:2*n], 0, api.Expr{}, 2*n, api.ErrTruncated)
	checkTake(t, nested(n, "(", "]"), 0, api.Expr{}, n+1, api.ErrSyntax)
	checkTake(t, slices.Repeat(tokens("("), n), 0, api.Expr{}, n, api.ErrTruncated)
	for _, form := range [][2]string{
		{"-", ""}, {"! ~", ""}, {"b [", "]"}, {"ones (", ")"}, {"- (", ")"}, {"b ? b :", ""}, {"b ?", ": b"}, {"(", ") ? b : b"}, {"b =>", ""}, {"(", ") => b"}, {"", "+ b"}, {"b * (", ")"}, {"", "|| b"}, {"", "> b"}, {"", "inside { b .. b }"}, {"b inside {", ".. b }"}, {"b inside { b ..", "}"}, {"b inside { b .. b , b ..", "}"},
	} {
		l := nested(n, form[0], form[1])
		checkTake(t, l, 0, api.Expr{}, 0, api.ErrLimit)
		checkTake(t, slices.Concat(l, tokens("&& a @ 8")), 0, api.Expr{}, 0, api.ErrName)
	}
	if e, _, err := exprtext.Take(nested(23, "b =>", ""), 0); err != api.OK || expr.Depth(e) != api.MaxDepth {
		t.Errorf("an expression of %d levels has the error %d", api.MaxDepth, err)
	}
}
