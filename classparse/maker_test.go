package classparse_test

import (
	"fmt"
	"math/rand"
	"strings"
	"testing"

	"testbench/api"
	"testbench/class"
	"testbench/exprtext"
	"testbench/item"
	"testbench/lexer"
)

const longName = "a123456789_BCDEF" // a name with the most bytes

// ex returns the expression with the text.
func ex(text string) api.Expr {
	e, _, err := exprtext.Parse(text)
	if err != api.OK {
		panic(fmt.Sprintf("%q has the error %d", text, err))
	}
	return e
}

func node(op int, args ...api.Expr) api.Expr {
	return api.Expr{Op: op, Args: args}
}

func number(n int) api.Expr {
	return api.Expr{Op: api.ExConst, N: n}
}

func hard(text string) api.Item {
	return api.Item{Kind: api.ItHard, Expr: ex(text)}
}

func soft(text string) api.Item {
	return api.Item{Kind: api.ItSoft, Expr: ex(text)}
}

func dist(name string, weights ...api.Weight) api.Item {
	return api.Item{Kind: api.ItDist, Name: name, Weights: weights}
}

func when(text string, items ...api.Item) api.Item {
	return api.Item{Kind: api.ItIf, Expr: ex(text), Items: items}
}

func otherwise(item api.Item, items ...api.Item) api.Item {
	item.Else = items
	return item
}

func each(index, array string, items ...api.Item) api.Item {
	return api.Item{Kind: api.ItEach, Name: array, Index: index, Items: items}
}

func solve(before, after string) api.Item {
	return api.Item{Kind: api.ItSolve, Before: strings.Fields(before), After: strings.Fields(after)}
}

func list(items ...api.Item) []api.Item {
	return items
}

// maker makes random classes.
type maker struct{ *rand.Rand }

func newMaker(seed int64) maker {
	return maker{rand.New(rand.NewSource(seed))}
}

func pick[T any](m maker, list ...T) T {
	return list[m.Intn(len(list))]
}

func (m maker) name() string {
	return pick(m, "a", "b", "d", "i", "sum", "ones", "software", "ifs", "distA", longName, fmt.Sprintf("x%d", m.Intn(10)))
}

func (m maker) variable() string {
	return m.name() + pick(m, "", "", "[0]", "[7]", fmt.Sprintf("[%d]", m.Intn(8)))
}

func (m maker) variables() []string {
	var names []string
	for range 1 + m.Intn(3) {
		names = append(names, m.variable())
	}
	return names
}

// expr returns an expression with at most so many levels.
func (m maker) expr(levels int) api.Expr {
	if levels == 1 || m.Intn(4) == 0 {
		return pick(m, number(m.Intn(65536)), number(m.Intn(3)), api.Expr{Op: api.ExVar, Name: m.variable()}, api.Expr{Op: api.ExSum, Name: m.name()})
	}
	args := func(n int) []api.Expr {
		var args []api.Expr
		for range n {
			args = append(args, m.expr(levels-1))
		}
		return args
	}
	switch m.Intn(8) {
	case 0:
		return node(api.ExIf, args(3)...)
	case 1:
		return node(api.ExInside, args(3+2*m.Intn(3))...)
	case 2:
		return api.Expr{Op: api.ExElem, Name: m.name(), Args: args(1)}
	case 3:
		return node(pick(m, api.ExNot, api.ExInv, api.ExNeg, api.ExOnes), args(1)...)
	}
	return node(api.ExAdd+m.Intn(api.ExImplies-api.ExAdd+1), args(2)...)
}

// weights returns at least one valid range.
func (m maker) weights() []api.Weight {
	var l []api.Weight
	for range 1 + m.Intn(pick(m, 1, 4, 16)) {
		lo := pick(m, 0, 65535, m.Intn(5), m.Intn(65536))
		l = append(l, api.Weight{Lo: lo, Hi: pick(m, lo, 65535, lo+m.Intn(65536-lo)), Weight: pick(m, 0, 1, 1000, m.Intn(1001)), Each: m.Intn(2) == 0})
	}
	return l
}

// items returns valid constraints, which are at most so deep.
func (m maker) items(levels int) []api.Item {
	var made []api.Item
	for range m.Intn(pick(m, 1, 2, 4)) {
		switch kind := 1 + m.Intn(6); {
		case kind == api.ItIf && levels > 0:
			made = append(made, api.Item{Kind: kind, Expr: m.expr(3), Items: m.items(levels - 1), Else: m.items(levels - 1)})
		case kind == api.ItEach && levels > 0:
			made = append(made, each(m.name(), m.name(), m.items(levels-1)...))
		case kind == api.ItDist && levels == 4:
			made = append(made, dist(m.variable(), m.weights()...))
		case kind == api.ItSolve && levels == 4:
			made = append(made, api.Item{Kind: kind, Before: m.variables(), After: m.variables()})
		default:
			made = append(made, api.Item{Kind: pick(m, api.ItHard, api.ItSoft), Expr: m.expr(1 + m.Intn(5))})
		}
	}
	return made
}

// validItems returns valid constraints.
func (m maker) validItems() []api.Item {
	for {
		if l := m.items(4); item.Valid(l) == api.OK {
			return l
		}
	}
}

func (m maker) field(name string) api.Field {
	f := api.Field{Name: name, Width: 1 + m.Intn(8), Mode: m.Intn(3)}
	if f.Mode != api.MoCyclic {
		f.Size = pick(m, 0, 1, 8, m.Intn(9))
	}
	if f.Mode == api.MoState {
		f.Init = pick(m, 0, 1<<f.Width-1, m.Intn(1<<f.Width))
	}
	return f
}

// class returns a valid class with at most so many fields and blocks, the names of whose fields end with the text.
func (m maker) class(most int, end string) api.Class {
	c := api.Class{Name: m.name(), Parent: pick(m, "", m.name())}
	for i := range m.Intn(pick(m, 0, 2, most) + 1) {
		c.Fields = append(c.Fields, m.field(fmt.Sprintf("%c%d%s", 'a'+m.Intn(26), i, end)))
	}
	for i := range m.Intn(pick(m, 0, 2, most) + 1) {
		c.Blocks = append(c.Blocks, api.Block{Name: fmt.Sprintf("%c%d", 'a'+m.Intn(26), i), Items: m.validItems()})
	}
	return c
}

// family returns at most so many classes that class.Check accepts together, the names of which begin with the text.
func (m maker) family(most int, begin string) []api.Class {
	var src []api.Class
	for i := range m.Intn(most + 1) {
		c := m.class(2, fmt.Sprintf("%s_%d", begin, i))
		c.Name, c.Parent = fmt.Sprintf("%s%d", begin, i), ""
		if i > 0 {
			c.Parent = pick(m, "", src[m.Intn(i)].Name, src[i-1].Name)
		}
		src = append(src, c)
	}
	m.Shuffle(len(src), func(i, j int) { src[i], src[j] = src[j], src[i] })
	if class.Check(src) != api.OK {
		return m.family(most, begin)
	}
	return src
}

// textsOf returns the texts of the tokens of a source.
func textsOf(s string) []string {
	tokens, line, err := lexer.Tokens(s)
	if err != api.OK {
		panic(fmt.Sprintf("line %d of %q has the error %d", line, s, err))
	}
	var texts []string
	for _, token := range tokens {
		texts = append(texts, token.Text)
	}
	return texts
}

// touch reports whether the tokens are read as they are, if no blank is between them.
func touch(a, b string) bool {
	tokens, _, err := lexer.Tokens(a + b)
	return err == api.OK && len(tokens) == 2 && tokens[0].Text == a
}

// gap returns blanks and comments that may stand behind a token. (A colon in front of a comment would be another mark.)
func (m maker) gap(behind string, gaps ...string) string {
	gap := pick(m, gaps...)
	if behind == ":" && strings.HasPrefix(gap, "//") {
		return " " + gap
	}
	return gap
}

// spaced returns a source with the tokens, with blanks and comments between them wherever they are needed, and often elsewhere.
func (m maker) spaced(texts []string) string {
	var b strings.Builder
	b.WriteString(m.gap("", "", "", " ", "\n", "// {\n"))
	last := ""
	for i, text := range texts {
		if i > 0 && (m.Intn(2) == 0 || !touch(last, text)) {
			b.WriteString(m.gap(last, " ", " ", "\n", "\t", "  ", " \n\n ", "//\n", "// } ; class é $ 007 //\n\t", "\n//\n"))
		}
		b.WriteString(text)
		last = text
	}
	b.WriteString(m.gap(last, "", "", " ", "\n", "\n\n", "// {", "//\n\n"))
	return b.String()
}

// Enough of what is made is of each kind, and valid.
func TestMaker(t *testing.T) {
	m := newMaker(1)
	kinds, modes, sizes := map[int]int{}, map[int]int{}, map[int]int{}
	for range 1000 {
		for _, item := range m.validItems() {
			kinds[item.Kind]++
		}
		c := m.class(16, "")
		if err := faultOfClass(c); err != api.OK {
			t.Fatalf("%s has the error %d", show(c), err)
		}
		for _, f := range c.Fields {
			modes[f.Mode]++
		}
		src := m.family(12, "p")
		if err := faultOfSource(src); err != api.OK {
			t.Fatalf("%s have the error %d", show(src), err)
		}
		sizes[min(len(src), 10)]++
	}
	for kind := api.ItHard; kind <= api.ItSolve; kind++ {
		if kinds[kind] < 50 {
			t.Errorf("%d constraints are of the kind %d", kinds[kind], kind)
		}
	}
	if modes[api.MoState] < 100 || modes[api.MoRand] < 100 || modes[api.MoCyclic] < 100 || sizes[0] < 10 || sizes[10] < 10 {
		t.Errorf("the modes are %v, the sizes of families %v", modes, sizes)
	}
}

// Spacing changes no tokens.
func TestSpaced(t *testing.T) {
	m := newMaker(2)
	texts := textsOf(everything)
	for range 200 {
		if s := m.spaced(texts); !equal(textsOf(s), texts) {
			t.Errorf("the tokens of %q are %q", s, textsOf(s))
		}
	}
}
