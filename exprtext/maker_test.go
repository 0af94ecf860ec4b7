package exprtext_test

import (
	"fmt"
	"math/rand"
	"slices"
	"strconv"
	"strings"
	"testing"

	"testbench/api"
	"testbench/lexer"
)

func number(n int) api.Expr {
	return api.Expr{Op: api.ExConst, N: n}
}

func variable(name string) api.Expr {
	return api.Expr{Op: api.ExVar, Name: name}
}

func element(array string, index api.Expr) api.Expr {
	return api.Expr{Op: api.ExElem, Name: array, Args: []api.Expr{index}}
}

func total(array string) api.Expr {
	return api.Expr{Op: api.ExSum, Name: array}
}

func node(op int, args ...api.Expr) api.Expr {
	return api.Expr{Op: op, Args: args}
}

// token returns the token with the text, in line 1.
func token(text string) api.Token {
	switch {
	case modelNumber.MatchString(text):
		n, err := strconv.Atoi(text)
		if err != nil {
			panic(err)
		}
		return api.Token{Kind: api.TkNumber, N: n, Text: text, Line: 1}
	case slices.Contains(modelMarks, text):
		return api.Token{Kind: api.TkMark, Text: text, Line: 1}
	case slices.Contains(modelWords, text):
		return api.Token{Kind: api.TkWord, Text: text, Line: 1}
	}
	return api.Token{Kind: api.TkName, Text: text, Line: 1}
}

// tokens returns those with the texts, which are separated by blanks.
func tokens(texts string) []api.Token {
	var list []api.Token
	for text := range strings.FieldsSeq(texts) {
		list = append(list, token(text))
	}
	return list
}

// tokensOf returns the tokens of a source without errors.
func tokensOf(t *testing.T, source string) []api.Token {
	t.Helper()
	list, _, err := lexer.Tokens(source)
	if err != api.OK {
		t.Fatalf("Tokens(%q) has the error %d", source, err)
	}
	return list
}

// wrongTokens are not valid, though most of them look like one that is.
func wrongTokens() []api.Token {
	return []api.Token{
		{}, {Text: "a"}, {Kind: 5, Text: "a"}, {Kind: -1, Text: "+"},
		{Kind: api.TkName}, {Kind: api.TkName, Text: "A"}, {Kind: api.TkName, Text: "a", N: 1}, {Kind: api.TkName, Text: "if"}, {Kind: api.TkName, Text: "inside"}, {Kind: api.TkName, Text: "+"}, {Kind: api.TkName, Text: "1"}, {Kind: api.TkName, Text: "a[0]"}, {Kind: api.TkName, Text: longName + "x"}, {Kind: api.TkName, Text: "a b"}, {Kind: api.TkName, Text: "sum", N: -1},
		{Kind: api.TkWord, Text: "inside", N: 1}, {Kind: api.TkWord, Text: "a"}, {Kind: api.TkWord, Text: "sum"}, {Kind: api.TkWord, Text: "("},
		{Kind: api.TkNumber, Text: "1"}, {Kind: api.TkNumber, N: 1}, {Kind: api.TkNumber, N: 1, Text: "01"}, {Kind: api.TkNumber, N: 1, Text: "2"}, {Kind: api.TkNumber, N: -1, Text: "-1"}, {Kind: api.TkNumber, N: 1 << 31, Text: "2147483648"}, {Kind: api.TkNumber, N: 70000, Text: "1"}, {Kind: api.TkNumber, N: 1, Text: "70000"},
		{Kind: api.TkMark}, {Kind: api.TkMark, Text: "+", N: 1}, {Kind: api.TkMark, Text: "(", N: 1}, {Kind: api.TkMark, Text: ")", N: -1}, {Kind: api.TkMark, Text: "inside"}, {Kind: api.TkMark, Text: "a"}, {Kind: api.TkMark, Text: "/"}, {Kind: api.TkMark, Text: "+ "}, {Kind: api.TkMark, Text: "//"}, {Kind: api.TkMark, Text: "%"}, {Kind: api.TkMark, Text: "?", N: 1},
		{Kind: api.TkName, Text: "+", Line: 1}, {Kind: api.TkMark, Text: strings.Repeat("(", 1000)},
	}
}

// show returns the beginning of the text of a value.
func show(value any) string {
	text := fmt.Sprint(value)
	return text[:min(len(text), 300)]
}

// nodesOf returns the nodes of e.
func nodesOf(e api.Expr) []api.Expr {
	list := []api.Expr{e}
	for i := 0; i < len(list); i++ {
		list = append(list, list[i].Args...)
	}
	return list
}

// equal compares the nodes, level by level, with the numbers of their operands: these determine an expression.
func equal(a, b api.Expr) bool {
	return slices.EqualFunc(nodesOf(a), nodesOf(b), func(x, y api.Expr) bool {
		return x.Op == y.Op && x.N == y.N && x.Name == y.Name && len(x.Args) == len(y.Args)
	})
}

// checkNew checks that no lists of the results share memory.
func checkNew(t *testing.T, results ...api.Expr) {
	t.Helper()
	seen := map[*api.Expr]bool{}
	for _, result := range results {
		for _, part := range nodesOf(result) {
			room := part.Args[:cap(part.Args)]
			for i := range room {
				if seen[&room[i]] {
					t.Fatalf("the memory of %s in %s is not new", show(part), show(result))
				}
				seen[&room[i]] = true
			}
		}
	}
}

// maker makes random expressions and tokens.
type maker struct{ *rand.Rand }

func newMaker(seed int64) maker {
	return maker{rand.New(rand.NewSource(seed))}
}

func pick[T any](m maker, list ...T) T {
	return list[m.Intn(len(list))]
}

func (m maker) leaf() api.Expr {
	switch m.Intn(4) {
	case 0:
		return number(pick(m, 0, 1, 7, 10, 255, 65534, 65535, m.Intn(65536)))
	case 1:
		return total(pick(m, "a", "sum", "ones", longName))
	}
	return variable(pick(m, "a", "b", "x1", "aZ_9", "sum", "ones", "d[0]", "d[7]", "sum[1]", "ones[2]", longName, longName+"[3]"))
}

// expr returns a valid expression with at most so many levels.
func (m maker) expr(levels int) api.Expr {
	if levels == 1 || m.Intn(6) == 0 {
		return m.leaf()
	}
	switch m.Intn(10) {
	case 0:
		return element(pick(m, "a", "d", "sum", "ones"), m.expr(levels-1))
	case 1:
		return node(api.ExOnes, m.expr(levels-1))
	case 2, 3:
		return m.node(pick(m, api.ExNot, api.ExInv, api.ExNeg), 1, levels)
	case 4:
		return m.node(api.ExIf, 3, levels)
	case 5:
		return m.node(api.ExInside, pick(m, 3, 3, 5, 7), levels)
	}
	return m.node(api.ExAdd+m.Intn(api.ExImplies-api.ExAdd+1), 2, levels)
}

func (m maker) node(op, operands, levels int) api.Expr {
	e := api.Expr{Op: op}
	for range operands {
		e.Args = append(e.Args, m.expr(levels-1))
	}
	return e
}

// expression returns a valid expression that is not large.
func (m maker) expression() api.Expr {
	for {
		if e := m.expr(1 + m.Intn(5)); len(nodesOf(e)) <= 30 {
			return e
		}
	}
}

// token returns a token that may stand in an expression, or a number that is too large.
func (m maker) token() api.Token {
	return token(pick(m, "a", "b", "sum", "ones", "0", "7", "9", "65535", "65536", "2147483647", "(", ")", "[", "]", "{", "}", ",", "..", "?", ":", "@", "inside",
		"=>", "||", "&&", "|", "^", "&", "==", "!=", "<", "<=", ">", ">=", "<<", ">>", "+", "-", "*", "!", "~"))
}

// anyToken returns a token that is perhaps of no use, or not valid.
func (m maker) anyToken() api.Token {
	switch m.Intn(8) {
	case 0:
		return pick(m, wrongTokens()...)
	case 1:
		return token(pick(m, modelMarks...))
	case 2:
		return token(pick(m, modelWords...))
	}
	return m.token()
}

// loose returns tokens of e, with some parentheses that it does not need.
func (m maker) loose(e api.Expr) []api.Token {
	most := m.Intn(4)
	list := withoutNeedless(modelTexts(e), e, func() bool { return m.Intn(3) < most })
	return tokens(strings.Join(list, " "))
}

// spoiled returns the tokens after a few changes.
func (m maker) spoiled(list []api.Token, other func() api.Token) []api.Token {
	for range m.Intn(4) {
		i := m.Intn(len(list) + 1)
		switch {
		case m.Intn(3) == 0:
			list = slices.Concat(list[:i], []api.Token{other()}, list[i:])
		case i == len(list):
		case m.Intn(3) == 0:
			list = list[:i]
		case m.Intn(2) == 0:
			list = slices.Concat(list[:i], list[i+1:])
		default:
			list = slices.Concat(list[:i], []api.Token{other()}, list[i+1:])
		}
	}
	return list
}

// source returns a text with the tokens, which have names, numbers and marks that are valid, with random blanks and comments, and the tokens with their lines.
func (m maker) source(list []api.Token) (string, []api.Token) {
	var text strings.Builder
	lined := slices.Clone(list)
	for i, token := range list {
		text.WriteString(m.gap())
		lined[i].Line = 1 + strings.Count(text.String(), "\n")
		text.WriteString(token.Text)
	}
	text.WriteString(m.gap())
	return text.String(), lined
}

// gap separates tokens.
func (m maker) gap() string {
	gap := pick(m, " ", "\t", "\n", " //\n", "\n// a + ( \"\n")
	for range m.Intn(2) {
		gap += pick(m, " ", "\t", "\n", "//)\n", " // é // ]\n\n")
	}
	return gap
}
