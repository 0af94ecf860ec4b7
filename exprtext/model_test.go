package exprtext_test

import (
	"regexp"
	"slices"
	"strconv"
	"strings"

	"testbench/api"
	"testbench/expr"
)

const (
	keywords = "class extends rand randc state constraint soft dist if else each in solve before inside property seq and or not set hold plain repeat"
	marks    = "( ) { } [ ] , ; : .. ? = == != < <= > >= << >> + - * & | ^ ~ ! && || -> => := :/ ## @"
	longName = "a123456789_BCDEF" // a name with the most bytes
)

// The grammar of the chapter, with a rule in each line: a number is a level, R the ranges of inside.
const grammar = `
1 <- 2 ? 1 : 1
1 <- 2
2 <- 3 => 2
2 <- 3
3 <- 3 || 4
3 <- 4
4 <- 4 && 5
4 <- 5
5 <- 5 | 6
5 <- 6
6 <- 6 ^ 7
6 <- 7
7 <- 7 & 8
7 <- 8
8 <- 8 == 9
8 <- 8 != 9
8 <- 9
9 <- 9 < 10
9 <- 9 <= 10
9 <- 9 > 10
9 <- 9 >= 10
9 <- 9 inside { R }
9 <- 10
R <- 1 .. 1
R <- 1 .. 1 , R
10 <- 10 << 11
10 <- 10 >> 11
10 <- 11
11 <- 11 + 12
11 <- 11 - 12
11 <- 12
12 <- 12 * 13
12 <- 13
13 <- ! 13
13 <- ~ 13
13 <- - 13
13 <- 14
14 <- NUMBER
14 <- NAME
14 <- NAME [ 1 ]
14 <- NAME @ NUMBER
14 <- sum ( NAME )
14 <- ones ( 1 )
14 <- ( 1 )
`

var (
	modelName   = regexp.MustCompile(`^[a-z][a-zA-Z0-9_]{0,15}$`)
	modelNumber = regexp.MustCompile(`^(0|[1-9][0-9]*)$`)
	modelWords  = strings.Fields(keywords)
	modelMarks  = strings.Fields(marks)
	modelRules  = rules()
)

// rule is a line of the grammar: what it makes, and of what.
type rule struct {
	left  string
	right []string
}

func rules() []rule {
	var list []rule
	for line := range strings.Lines(strings.TrimSpace(grammar)) {
		words := strings.Fields(line)
		list = append(list, rule{words[0], words[2:]})
	}
	return list
}

// state is a rule of which the parts before the dot have been found in the tokens from the index origin on.
type state struct{ rule, dot, origin int }

// wanted returns the part behind the dot; an empty text if there is none.
func (s state) wanted() string {
	if right := modelRules[s.rule].right; s.dot < len(right) {
		return right[s.dot]
	}
	return ""
}

// chart is that of Earley's algorithm: what may have been found, for each number of tokens.
type chart struct{ sets [][]state }

func newChart() *chart {
	c := &chart{}
	c.add(starts("1", 0))
	return c
}

// starts returns the rules that make what is wanted.
func starts(wanted string, at int) []state {
	var list []state
	for i, r := range modelRules {
		if r.left == wanted {
			list = append(list, state{i, 0, at})
		}
	}
	return list
}

// add adds the set of all that follows from the states.
func (c *chart) add(list []state) {
	at := len(c.sets)
	for i := 0; i < len(list); i++ {
		s := list[i]
		follow := starts(s.wanted(), at)
		if s.wanted() == "" {
			follow = c.without(s)
		}
		for _, next := range follow {
			if !slices.Contains(list, next) {
				list = append(list, next)
			}
		}
	}
	c.sets = append(c.sets, list)
}

// without returns the states that waited for what the state has found. (Nothing is made of no tokens, so they are in an earlier set.)
func (c *chart) without(found state) []state {
	var list []state
	for _, s := range c.sets[found.origin] {
		if s.wanted() == modelRules[found.rule].left {
			list = append(list, state{s.rule, s.dot + 1, s.origin})
		}
	}
	return list
}

// scan adds the token, if the tokens are the beginning of an expression with it.
func (c *chart) scan(token api.Token) bool {
	var list []state
	for _, s := range c.sets[len(c.sets)-1] {
		if matches(s.wanted(), token) {
			list = append(list, state{s.rule, s.dot + 1, s.origin})
		}
	}
	if list == nil {
		return false
	}
	c.add(list)
	return true
}

// undo takes back the last scan.
func (c *chart) undo() {
	c.sets = c.sets[:len(c.sets)-1]
}

// complete reports whether the tokens are an expression.
func (c *chart) complete() bool {
	return slices.ContainsFunc(c.sets[len(c.sets)-1], func(s state) bool {
		return s.wanted() == "" && s.origin == 0 && modelRules[s.rule].left == "1"
	})
}

func matches(wanted string, token api.Token) bool {
	switch {
	case !isModelToken(token):
		return false
	case wanted == "NUMBER":
		return token.Kind == api.TkNumber
	case wanted == "NAME":
		return token.Kind == api.TkName
	}
	return wanted == token.Text
}

// isModelToken follows layer 7.
func isModelToken(token api.Token) bool {
	text := token.Text
	switch token.Kind {
	case api.TkName:
		return token.N == 0 && modelName.MatchString(text) && !slices.Contains(modelWords, text)
	case api.TkWord:
		return token.N == 0 && slices.Contains(modelWords, text)
	case api.TkNumber:
		return token.N >= 0 && token.N < 1<<31 && modelNumber.MatchString(text) && text == strconv.Itoa(token.N)
	case api.TkMark:
		return token.N == 0 && slices.Contains(modelMarks, text)
	}
	return false
}

// modelRead returns what there is before expr.Valid: the expression, and the index behind it; or an error, and the index of its token.
func modelRead(l []api.Token, at int) (api.Expr, int, api.Errno) {
	c := newChart()
	end := at
	for end < len(l) && c.scan(l[end]) {
		end++
	}
	var texts []string
	for i, token := range l[at:end] {
		if token.Kind == api.TkNumber && token.N > 65535 {
			return api.Expr{}, at + i, api.ErrOverflow
		}
		texts = append(texts, token.Text)
	}
	switch {
	case c.complete():
		return modelTree(texts), end, api.OK
	case end < len(l):
		return api.Expr{}, end, api.ErrSyntax
	}
	return api.Expr{}, end, api.ErrTruncated
}

// modelTake follows P9.2.
func modelTake(l []api.Token, at int) (api.Expr, int, api.Errno) {
	if at < 0 || at > len(l) {
		return api.Expr{}, 0, api.ErrArg
	}
	e, end, err := modelRead(l, at)
	return modelChecked(e, end, err)
}

// modelParse follows P9.3, for the tokens of a text.
func modelParse(l []api.Token) (api.Expr, int, api.Errno) {
	e, end, err := modelRead(l, 0)
	if err == api.OK && end < len(l) {
		err = api.ErrSyntax
	}
	if err == api.OK {
		return modelChecked(e, 0, err)
	}
	line := 1
	for i, token := range l {
		if i <= end {
			line = token.Line
		}
	}
	return api.Expr{}, line, err
}

// modelChecked puts the error of expr.Valid behind the others.
func modelChecked(e api.Expr, n int, err api.Errno) (api.Expr, int, api.Errno) {
	if err != api.OK {
		return api.Expr{}, n, err
	}
	if err := expr.Valid(e); err != api.OK {
		return api.Expr{}, 0, err
	}
	return e, n, api.OK
}

// modelTree returns the expression that the texts of tokens are: it divides them at the operator of the lowest level that is in no brackets.
func modelTree(l []string) api.Expr {
	if i, found := first(l, "?"); found {
		j := i + colon(l[i+1:]) + 1
		return node(api.ExIf, modelTree(l[:i]), modelTree(l[i+1:j]), modelTree(l[j+1:]))
	}
	if i, found := first(l, "=>"); found {
		return node(api.ExImplies, modelTree(l[:i]), modelTree(l[i+1:]))
	}
	for _, level := range []string{"||", "&&", "|", "^", "&", "== !=", "< <= > >= inside", "<< >>", "+ -", "*"} {
		if i, found := last(l, strings.Fields(level)...); found {
			return modelBinary(l, i)
		}
	}
	if op, found := map[string]int{"!": api.ExNot, "~": api.ExInv, "-": api.ExNeg}[l[0]]; found {
		return node(op, modelTree(l[1:]))
	}
	return modelPrimary(l)
}

// modelBinary returns the expression whose operator has the index i.
func modelBinary(l []string, i int) api.Expr {
	a := modelTree(l[:i])
	if l[i] == "inside" {
		return node(api.ExInside, append([]api.Expr{a}, modelRanges(l[i+2:len(l)-1])...)...)
	}
	b := modelTree(l[i+1:])
	switch l[i] {
	case ">":
		return node(api.ExLt, b, a)
	case ">=":
		return node(api.ExLe, b, a)
	}
	return node(modelOps()[l[i]], a, b)
}

// modelOps returns the operators of the marks that are printed.
func modelOps() map[string]int {
	return map[string]int{
		"=>": api.ExImplies, "||": api.ExEither, "&&": api.ExBoth, "|": api.ExOr, "^": api.ExXor, "&": api.ExAnd, "==": api.ExEq, "!=": api.ExNe,
		"<": api.ExLt, "<=": api.ExLe, "<<": api.ExShl, ">>": api.ExShr, "+": api.ExAdd, "-": api.ExSub, "*": api.ExMul,
	}
}

func modelRanges(l []string) []api.Expr {
	var list []api.Expr
	for l != nil {
		pair := l
		if i, found := first(l, ","); found {
			pair, l = l[:i], l[i+1:]
		} else {
			l = nil
		}
		i, _ := first(pair, "..")
		list = append(list, modelTree(pair[:i]), modelTree(pair[i+1:]))
	}
	return list
}

func modelPrimary(l []string) api.Expr {
	size := len(l)
	switch {
	case l[0] == "(":
		return modelTree(l[1 : size-1])
	case size == 1 && modelNumber.MatchString(l[0]):
		n, _ := strconv.Atoi(l[0])
		return number(n)
	case size == 1:
		return variable(l[0])
	case l[1] == "@":
		return variable(l[0] + "[" + l[2] + "]")
	case l[1] == "[":
		return element(l[0], modelTree(l[2:size-1]))
	case l[0] == "sum":
		return total(l[2])
	}
	return node(api.ExOnes, modelTree(l[2:size-1]))
}

// outside calls visit with the indexes of the texts that are in no brackets, until it returns false.
func outside(l []string, visit func(i int) bool) {
	depth := 0
	for i, text := range l {
		depth -= strings.Count(")]}", text)
		if depth == 0 && !visit(i) {
			return
		}
		depth += strings.Count("([{", text)
	}
}

// first returns the index of the first such text in no brackets.
func first(l []string, text string) (index int, found bool) {
	outside(l, func(i int) bool {
		index, found = i, l[i] == text
		return !found
	})
	return index, found
}

// last returns the index of the last binary operator in no brackets that is one of the texts.
func last(l []string, texts ...string) (index int, found bool) {
	outside(l, func(i int) bool {
		if slices.Contains(texts, l[i]) && endsOperand(l[:i]) {
			index, found = i, true
		}
		return true
	})
	return index, found
}

// endsOperand reports whether the last of the texts ends an operand, so that a minus behind it is binary.
func endsOperand(l []string) bool {
	if len(l) == 0 {
		return false
	}
	text := l[len(l)-1]
	return strings.Contains(")]}", text) || modelNumber.MatchString(text) || modelName.MatchString(text) && !slices.Contains(modelWords, text)
}

// colon returns the index of the colon that belongs to a question mark before the texts.
func colon(l []string) (index int) {
	open := 1
	outside(l, func(i int) bool {
		open += strings.Count("?", l[i]) - strings.Count(":", l[i])
		index = i
		return open > 0
	})
	return index
}

// modelPrint follows P9.1: it writes all parentheses, and leaves out each pair without which the text has the same meaning.
func modelPrint(e api.Expr) string {
	l := withoutNeedless(modelTexts(e), e, func() bool { return true })
	for i, text := range l {
		l[i] = spaced(l[:i], text)
	}
	return strings.Join(l, "")
}

// withoutNeedless returns the texts of e without the chosen ones among the parentheses that it does not need.
func withoutNeedless(l []string, e api.Expr, chosen func() bool) []string {
	for i := 0; i < len(l); {
		shorter := withoutPair(l, i)
		if shorter != nil && chosen() && isTextOf(shorter, e) {
			l = shorter
		} else {
			i++
		}
	}
	return l
}

// isTextOf reports whether the texts of tokens are those of e.
func isTextOf(l []string, e api.Expr) bool {
	c := newChart()
	for _, text := range l {
		if !c.scan(token(text)) {
			return false
		}
	}
	return c.complete() && expr.Same(modelTree(l), e)
}

// withoutPair returns the texts without the parenthesis with the index and the one that closes it; nil if there is none.
func withoutPair(l []string, i int) []string {
	if l[i] != "(" {
		return nil
	}
	j := i + 1
	for depth := 1; depth > 0; j++ {
		depth += strings.Count("(", l[j]) - strings.Count(")", l[j])
	}
	return slices.Concat(l[:i], l[i+1:j-1], l[j:])
}

// modelTexts returns the texts of tokens of e, with parentheses around each operand.
func modelTexts(e api.Expr) []string {
	var l [][]string
	for _, arg := range e.Args {
		l = append(l, slices.Concat([]string{"("}, modelTexts(arg), []string{")"}))
	}
	switch e.Op {
	case api.ExConst:
		return []string{strconv.Itoa(e.N)}
	case api.ExVar:
		return strings.Fields(strings.NewReplacer("[", " @ ", "]", "").Replace(e.Name))
	case api.ExElem:
		return slices.Concat([]string{e.Name, "["}, l[0], []string{"]"})
	case api.ExSum:
		return []string{"sum", "(", e.Name, ")"}
	case api.ExOnes:
		return slices.Concat([]string{"ones", "("}, l[0], []string{")"})
	case api.ExNot, api.ExInv, api.ExNeg:
		return append([]string{strings.Fields("! ~ -")[e.Op-api.ExNot]}, l[0]...)
	case api.ExIf:
		return slices.Concat(l[0], []string{"?"}, l[1], []string{":"}, l[2])
	case api.ExInside:
		return append(slices.Concat(l[0], []string{"inside", "{"}, rangeTexts(l[1:])), "}")
	}
	for mark, op := range modelOps() {
		if op == e.Op {
			return slices.Concat(l[0], []string{mark}, l[1])
		}
	}
	panic("an unknown operator")
}

func rangeTexts(bounds [][]string) []string {
	var l []string
	for i, bound := range bounds {
		if i > 0 {
			l = append(l, map[int]string{0: ",", 1: ".."}[i%2])
		}
		l = append(l, bound...)
	}
	return l
}

// spaced returns the text of a token with its blanks, behind those before it.
func spaced(before []string, text string) string {
	_, isOperator := modelOps()[text]
	switch {
	case text == "-" && !endsOperand(trimmed(before)):
		return text
	case isOperator, slices.Contains([]string{"?", ":", "..", "inside"}, text):
		return " " + text + " "
	case text == "{", text == ",":
		return text + " "
	case text == "}":
		return " " + text
	}
	return text
}

// trimmed returns the texts without blanks.
func trimmed(l []string) []string {
	var list []string
	for _, text := range l {
		list = append(list, strings.TrimSpace(text))
	}
	return list
}
