package classparse_test

import (
	"slices"
	"strings"

	"testbench/api"
	"testbench/exprtext"
)

// The grammar of the chapter, where <> stand around what is not meant literally. A field has a target of its own, since its number is at least 1.
const grammar = `
<source> = {{ <class> }}
<items>  = {{ <item> }}
<class>  = class NAME [[ extends NAME ]] { {{ <field> }} {{ <block> }} }
<field>  = rand <sized> : NUMBER ; | randc <sized> : NUMBER ; | state <sized> : NUMBER = NUMBER ;
<sized>  = NAME [[ [ POSITIVE ] ]]
<target> = NAME [[ [ NUMBER ] ]]
<block>  = constraint NAME { {{ <item> }} }
<item>   = soft EXPR ; | EXPR ; | dist <target> { <weight> {{ , <weight> }} } ; | if ( EXPR ) { {{ <item> }} } [[ else { {{ <item> }} } ]] | each NAME in NAME { {{ <item> }} } | solve <target> {{ , <target> }} before <target> {{ , <target> }} ;
<weight> = NUMBER [[ .. NUMBER ]] := NUMBER | NUMBER [[ .. NUMBER ]] :/ NUMBER
`

// form is what a rule, or a part of it, has the form of: one of the sequences. A form without sequences is a symbol.
type form struct {
	symbol    string
	repeats   bool
	sequences [][]form
}

var grammarRules = rules()

// rules returns the forms of the grammar by their names.
func rules() map[string]form {
	list := map[string]form{}
	for line := range strings.Lines(strings.TrimSpace(grammar)) {
		words := strings.Fields(line)
		f, _ := formOf(words[2:], "")
		list[words[0]] = f
	}
	return list
}

// formOf returns the form with which the words begin, up to the word that ends it, and the words behind it.
func formOf(words []string, end string) (form, []string) {
	f := form{sequences: [][]form{nil}}
	for len(words) > 0 && words[0] != end {
		var part form
		word := words[0]
		words = words[1:]
		switch word {
		case "|":
			f.sequences = append(f.sequences, nil)
			continue
		case "[[":
			part, words = formOf(words, "]]")
			part.sequences = append(part.sequences, nil)
		case "{{":
			part, words = formOf(words, "}}")
			part.repeats = true
		default:
			part.symbol = word
		}
		last := len(f.sequences) - 1
		f.sequences[last] = append(f.sequences[last], part)
	}
	return f, words[min(1, len(words)):]
}

// tree is what was found for a rule, or for a symbol.
type tree struct {
	symbol string
	parts  []tree
	token  api.Token
	expr   api.Expr
}

// finder looks for the forms in the tokens, and keeps the fault that is behind all others; where an expression can begin, that of the expression.
type finder struct {
	tokens []api.Token
	at     int // the index of the token at the fault
	err    api.Errno
	exact  bool // the error belongs to an expression, and to no token
}

func (f *finder) fail(at int, err api.Errno, exact bool) {
	isBehind := at > f.at || at == f.at && err == api.ErrOverflow
	if f.err == api.OK || !f.exact && (exact || isBehind) {
		f.at, f.err, f.exact = at, err, exact
	}
}

// find returns the parts that have the form at an index, and the index behind them.
func (f *finder) find(wanted form, at int) (parts []tree, end int, found bool) {
	if wanted.sequences == nil {
		part, end, found := f.symbol(wanted.symbol, at)
		return []tree{part}, end, found
	}
	if wanted.repeats {
		once := form{sequences: wanted.sequences}
		for {
			more, next, found := f.find(once, at)
			if !found {
				return parts, at, true
			}
			parts, at = append(parts, more...), next
		}
	}
	for _, sequence := range wanted.sequences {
		if parts, end, found := f.sequence(sequence, at); found {
			return parts, end, true
		}
	}
	return nil, at, false
}

func (f *finder) sequence(wanted []form, at int) (parts []tree, end int, found bool) {
	for _, part := range wanted {
		more, next, found := f.find(part, at)
		if !found {
			return nil, at, false
		}
		parts, at = append(parts, more...), next
	}
	return parts, at, true
}

func (f *finder) symbol(wanted string, at int) (tree, int, bool) {
	if rule, isRule := grammarRules[wanted]; isRule {
		parts, end, found := f.find(rule, at)
		return tree{symbol: wanted, parts: parts}, end, found
	}
	if wanted == "EXPR" {
		return f.expression(at)
	}
	if at == len(f.tokens) {
		f.fail(at, api.ErrTruncated, false)
		return tree{}, at, false
	}
	token := f.tokens[at]
	if !isSymbol(wanted, token) {
		f.fail(at, api.ErrSyntax, false)
		return tree{}, at, false
	}
	return tree{symbol: wanted, token: token}, at + 1, true
}

func isSymbol(wanted string, token api.Token) bool {
	switch wanted {
	case "NAME":
		return token.Kind == api.TkName
	case "NUMBER":
		return token.Kind == api.TkNumber
	case "POSITIVE":
		return token.Kind == api.TkNumber && token.N > 0
	}
	return (token.Kind == api.TkWord || token.Kind == api.TkMark) && token.Text == wanted
}

func (f *finder) expression(at int) (tree, int, bool) {
	e, end, err := exprtext.Take(f.tokens, at)
	if err != api.OK {
		belongsToToken := err == api.ErrSyntax || err == api.ErrOverflow || err == api.ErrTruncated
		f.fail(end, err, !belongsToToken)
		return tree{}, at, false
	}
	return tree{symbol: "EXPR", expr: e}, end, true
}

// derived returns the tree of all tokens for a rule, or the error and its line.
func derived(rule string, tokens []api.Token) (tree, int, api.Errno) {
	f := finder{tokens: tokens}
	found, end, complete := f.symbol(rule, 0)
	if complete && end == len(tokens) {
		return found, 0, api.OK
	}
	if complete {
		f.fail(end, api.ErrSyntax, false)
	}
	if f.exact || len(tokens) == 0 {
		return tree{}, 0, f.err
	}
	return tree{}, tokens[min(f.at, len(tokens)-1)].Line, f.err
}

// of returns the parts with the symbol.
func (d tree) of(symbol string) []tree {
	var list []tree
	for _, part := range d.parts {
		if part.symbol == symbol {
			list = append(list, part)
		}
	}
	return list
}

// cut returns what is in front of a word, and what is behind it.
func (d tree) cut(word string) (before, after tree) {
	at := slices.IndexFunc(d.parts, func(part tree) bool { return part.symbol == word })
	if at < 0 {
		return d, tree{}
	}
	return tree{parts: d.parts[:at]}, tree{parts: d.parts[at+1:]}
}

// collect returns what make makes of the parts with the symbol.
func collect[T any](d tree, symbol string, make func(part tree) T) []T {
	var list []T
	for _, part := range d.of(symbol) {
		list = append(list, make(part))
	}
	return list
}

func (d tree) names() []string {
	return collect(d, "NAME", func(part tree) string { return part.token.Text })
}

func (d tree) numbers() []int {
	return collect(d, "NUMBER", func(part tree) int { return part.token.N })
}

func (d tree) items() []api.Item {
	return collect(d, "<item>", tree.item)
}

func (d tree) targets() []string {
	return collect(d, "<target>", func(part tree) string {
		text := part.names()[0]
		for _, index := range part.of("NUMBER") {
			text += "[" + index.token.Text + "]"
		}
		return text
	})
}

func (d tree) class() api.Class {
	c := api.Class{Name: d.names()[0]}
	if parents := d.names()[1:]; len(parents) > 0 {
		c.Parent = parents[0]
	}
	c.Fields = collect(d, "<field>", tree.field)
	c.Blocks = collect(d, "<block>", func(part tree) api.Block { return api.Block{Name: part.names()[0], Items: part.items()} })
	return c
}

func (d tree) field() api.Field {
	target, numbers := d.of("<sized>")[0], d.numbers()
	f := api.Field{Name: target.names()[0], Width: numbers[0], Mode: map[string]int{"rand": api.MoRand, "randc": api.MoCyclic, "state": api.MoState}[d.parts[0].symbol]}
	for _, size := range target.of("POSITIVE") {
		f.Size = size.token.N
	}
	for _, init := range numbers[1:] {
		f.Init = init
	}
	return f
}

func (d tree) item() api.Item {
	switch d.parts[0].symbol {
	case "soft":
		return api.Item{Kind: api.ItSoft, Expr: d.of("EXPR")[0].expr}
	case "dist":
		return api.Item{Kind: api.ItDist, Name: d.targets()[0], Weights: collect(d, "<weight>", tree.weight)}
	case "if":
		chosen, other := d.cut("else")
		return api.Item{Kind: api.ItIf, Expr: d.of("EXPR")[0].expr, Items: chosen.items(), Else: other.items()}
	case "each":
		return api.Item{Kind: api.ItEach, Index: d.names()[0], Name: d.names()[1], Items: d.items()}
	case "solve":
		before, after := d.cut("before")
		return api.Item{Kind: api.ItSolve, Before: before.targets(), After: after.targets()}
	}
	return api.Item{Kind: api.ItHard, Expr: d.parts[0].expr}
}

func (d tree) weight() api.Weight {
	numbers := d.numbers()
	last := len(numbers) - 1
	return api.Weight{Lo: numbers[0], Hi: numbers[last-1], Weight: numbers[last], Each: len(d.of(":=")) > 0}
}
