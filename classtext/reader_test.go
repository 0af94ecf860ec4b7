package classtext_test

import (
	"fmt"
	"regexp"
	"strconv"
	"strings"
	"testing"

	"testbench/api"
	"testbench/exprtext"
)

// The reader is the inverse of what the chapter defines: it takes exactly the lines that are the text of something, and panics at all others.
// Since it takes only one text for each thing, what it restores from a text has no other one.
type reader struct{ lines []string }

const (
	nameForm     = `[a-z][a-zA-Z0-9_]{0,15}`
	variableForm = nameForm + `(?:\[[0-7]\])?`
	numberForm   = `(?:0|-?[1-9][0-9]*)`
	listForm     = `(` + variableForm + `(?:, ` + variableForm + `)*)`
)

var (
	weightLine = regexp.MustCompile(`^(` + numberForm + `)(?: \.\. (` + numberForm + `))? (:=|:/) (` + numberForm + `)$`)
	classLine  = regexp.MustCompile(`^class (` + nameForm + `)(?: extends (` + nameForm + `))? \{$`)
	blockLine  = regexp.MustCompile(`^constraint (` + nameForm + `) \{$`)
	randLine   = regexp.MustCompile(`^(rand|randc) (` + nameForm + `)(?:\[([1-8])\])? : ([1-8]);$`)
	stateLine  = regexp.MustCompile(`^(state) (` + nameForm + `)(?:\[([1-8])\])? : ([1-8]) = (` + numberForm + `);$`)
	distLine   = regexp.MustCompile(`^dist (` + variableForm + `) \{ (.+) \};$`)
	ifLine     = regexp.MustCompile(`^if \((.+)\) \{$`)
	eachLine   = regexp.MustCompile(`^each (` + nameForm + `) in (` + nameForm + `) \{$`)
	solveLine  = regexp.MustCompile(`^solve ` + listForm + ` before ` + listForm + `;$`)
	softLine   = regexp.MustCompile(`^soft (.+);$`)
	hardLine   = regexp.MustCompile(`^(.+);$`)
)

// read returns what take makes of all lines of a text.
func read[T any](t *testing.T, text string, take func(r *reader) T) (value T) {
	t.Helper()
	defer func() {
		if err := recover(); err != nil {
			t.Errorf("%q is no such text: %v", text, err)
		}
	}()
	return readAll(text, take)
}

// readAll does the same, but panics if the text has not the form.
func readAll[T any](text string, take func(r *reader) T) T {
	lines := strings.SplitAfter(text, "\n")
	last := len(lines) - 1
	if lines[last] != "" {
		panic("the last line has no line feed")
	}
	r := &reader{lines[:last]}
	value := take(r)
	if len(r.lines) > 0 {
		panic(fmt.Sprintf("%d lines are left", len(r.lines)))
	}
	return value
}

func itemsAt(indent int) func(r *reader) []api.Item {
	return func(r *reader) []api.Item { return r.items(indent) }
}

// peek returns the next line, if it has the indentation; without this, and without the line feed.
func (r *reader) peek(indent int) (string, bool) {
	if len(r.lines) == 0 {
		return "", false
	}
	line, found := strings.CutPrefix(r.lines[0], strings.Repeat(" ", 4*indent))
	return strings.TrimSuffix(line, "\n"), found && !strings.HasPrefix(line, " ")
}

// match steps over the next line, if it has the form, and returns its parts.
func (r *reader) match(indent int, form *regexp.Regexp) []string {
	line, found := r.peek(indent)
	parts := form.FindStringSubmatch(line)
	if !found || parts == nil {
		return nil
	}
	r.lines = r.lines[1:]
	return parts
}

// skip steps over the next line, if it is this one.
func (r *reader) skip(indent int, want string) bool {
	return r.match(indent, regexp.MustCompile(`^`+regexp.QuoteMeta(want)+`$`)) != nil
}

func (r *reader) must(indent int, want string) {
	if !r.skip(indent, want) {
		panic(fmt.Sprintf("no %q at the indentation %d of %q", want, indent, r.lines))
	}
}

// source takes classes with empty lines between them.
func (r *reader) source() []api.Class {
	var src []api.Class
	for len(r.lines) > 0 {
		if len(src) > 0 {
			r.must(0, "")
		}
		src = append(src, r.class())
	}
	return src
}

func (r *reader) class() api.Class {
	head := r.match(0, classLine)
	c := api.Class{Name: head[1], Parent: head[2]}
	for {
		f, found := r.field()
		if !found {
			break
		}
		c.Fields = append(c.Fields, f)
	}
	for {
		parts := r.match(1, blockLine)
		if parts == nil {
			break
		}
		c.Blocks = append(c.Blocks, api.Block{Name: parts[1], Items: r.items(2)})
		r.must(1, "}")
	}
	r.must(0, "}")
	return c
}

func (r *reader) field() (api.Field, bool) {
	parts := r.match(1, stateLine)
	if parts == nil {
		parts = r.match(1, randLine)
	}
	if parts == nil {
		return api.Field{}, false
	}
	f := api.Field{Name: parts[2], Width: numberOf(parts[4])}
	if parts[3] != "" {
		f.Size = numberOf(parts[3])
	}
	switch parts[1] {
	case "rand":
		f.Mode = api.MoRand
	case "randc":
		f.Mode = api.MoCyclic
	case "state":
		f.Init = numberOf(parts[5])
	}
	return f, true
}

// items takes constraints, as long as there are lines with the indentation.
func (r *reader) items(indent int) []api.Item {
	var l []api.Item
	for {
		line, found := r.peek(indent)
		if !found || strings.HasPrefix(line, "}") {
			return l
		}
		l = append(l, r.item(indent))
	}
}

func (r *reader) item(indent int) api.Item {
	if parts := r.match(indent, distLine); parts != nil {
		return api.Item{Kind: api.ItDist, Name: parts[1], Weights: weightsOf(parts[2])}
	}
	if parts := r.match(indent, ifLine); parts != nil {
		return r.choice(indent, expression(parts[1]))
	}
	if parts := r.match(indent, eachLine); parts != nil {
		item := api.Item{Kind: api.ItEach, Index: parts[1], Name: parts[2], Items: r.items(indent + 1)}
		r.must(indent, "}")
		return item
	}
	if parts := r.match(indent, solveLine); parts != nil {
		return api.Item{Kind: api.ItSolve, Before: strings.Split(parts[1], ", "), After: strings.Split(parts[2], ", ")}
	}
	if parts := r.match(indent, softLine); parts != nil {
		return api.Item{Kind: api.ItSoft, Expr: expression(parts[1])}
	}
	parts := r.match(indent, hardLine)
	return api.Item{Kind: api.ItHard, Expr: expression(parts[1])}
}

// choice takes what follows the first line of an if.
func (r *reader) choice(indent int, e api.Expr) api.Item {
	item := api.Item{Kind: api.ItIf, Expr: e, Items: r.items(indent + 1)}
	if r.skip(indent, "} else {") {
		item.Else = r.items(indent + 1)
		if len(item.Else) == 0 {
			panic("an empty Else")
		}
	}
	r.must(indent, "}")
	return item
}

// expression returns the one whose canonical text this is.
func expression(text string) api.Expr {
	e := ex(text)
	if exprtext.Print(e) != text {
		panic(fmt.Sprintf("%q is not canonical", text))
	}
	return e
}

// weightsOf returns the ranges with the text.
func weightsOf(text string) []api.Weight {
	var l []api.Weight
	if text == "" {
		return l
	}
	for _, part := range strings.Split(text, ", ") {
		parts := weightLine.FindStringSubmatch(part)
		w := api.Weight{Lo: numberOf(parts[1]), Weight: numberOf(parts[4]), Each: parts[3] == ":="}
		w.Hi = w.Lo
		if parts[2] != "" {
			w.Hi = numberOf(parts[2])
			if w.Hi == w.Lo {
				panic("a range of one number with two numbers")
			}
		}
		l = append(l, w)
	}
	return l
}

func numberOf(text string) int {
	n, err := strconv.Atoi(text)
	if err != nil {
		panic(err)
	}
	return n
}

// The reader takes no other texts.
func TestReader(t *testing.T) {
	takeSource := func(text string) { readAll(text, (*reader).source) }
	takeItems := func(text string) { readAll(text, itemsAt(0)) }
	takeWeights := func(text string) { weightsOf(text) }
	refused := func(take func(text string), text string) {
		defer func() {
			if recover() == nil {
				t.Errorf("the reader takes %q", text)
			}
		}()
		take(text)
	}
	takeSource("class p {\n    rand a : 1;\n    constraint c {\n        a;\n    }\n}\n\nclass q {\n}\n")
	for _, text := range []string{
		"class p {\n", "class p {\n}", "class p { }\n", "class p {\n}\n\n", "\nclass p {\n}\n", "class p {\n}\nclass q {\n}\n", "class p {\n}\n\n\nclass q {\n}\n", "class p{\n}\n", "class p extends {\n}\n", "class p {\n\n}\n", "class p {\n}\n//\n",
		"class p {\n rand a : 1;\n}\n", "class p {\n    rand a: 1;\n}\n", "class p {\n    rand a[0] : 1;\n}\n", "class p {\n    rand a : 1 = 0;\n}\n", "class p {\n    rand a : 1; \n}\n", "class p {\n    state a : 1;\n}\n", "class p {\n    state a : 1 = 01;\n}\n",
		"class p {\n    constraint c {\n    }\n    rand a : 1;\n}\n", "class p {\n    constraint c {\n    a;\n    }\n}\n", "class p {\n    constraint c { }\n}\n", "class p {\n    constraint c {\n    }\n\n    constraint d {\n    }\n}\n",
	} {
		refused(takeSource, text)
	}
	takeItems("if (a) {\n    a;\n} else {\n    a;\n}\n")
	for _, text := range []string{"a", "a\n", "a;", "(a);\n", "a ;\n", " a;\n", "a; \n", "a+b;\n", "a; b;\n", "if (a) {\n", "if (a) {\n}\nelse {\n    a;\n}\n", "if (a) {\n} else {\n}\n", "if a {\n}\n", "if ((a)) {\n}\n", "if (a) { }\n", "each i in d {\na;\n}\n", "dist a { 1 := 2 }\n", "dist a { };\n", "dist a@1 { 1 := 2 };\n", "solve a,b before c;\n", "solve a before b\n", "soft  a;\n", "\n", "}\n"} {
		refused(takeItems, text)
	}
	takeWeights("-1 .. 1 :/ 0")
	for _, text := range []string{"1", "1 := 1,2 := 2", "1 := 1, ", "1 .. 1 := 1", "01 := 1", "-0 := 1", "+1 := 1", "1:=1", "1 = 1", "1..2 := 3"} {
		refused(takeWeights, text)
	}
}
