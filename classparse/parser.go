package classparse

import (
	"testbench/api"
	"testbench/exprtext"
	"testbench/lexer"
)

// fault is what a parser raises by panic: an error and its line.
type fault struct {
	err  api.Errno
	line int
}

// parser reads the tokens of a source; the next one has the index at. Their texts tell which ones they are.
type parser struct {
	tokens []api.Token
	at     int
}

func parserOf(s string) *parser {
	tokens, line, err := lexer.Tokens(s)
	if err != api.OK {
		panic(fault{err, line})
	}
	return &parser{tokens: tokens}
}

// next returns the next token; behind the last one the zero token, which fits nowhere.
func (p *parser) next() api.Token {
	if p.ended() {
		return api.Token{}
	}
	return p.tokens[p.at]
}

func (p *parser) ended() bool {
	return p.at == len(p.tokens)
}

// lineAt returns the line of the token with the index; behind the last token that of the last one, and 0 if there are none.
func (p *parser) lineAt(at int) int {
	if len(p.tokens) == 0 {
		return 0
	}
	return p.tokens[min(at, len(p.tokens)-1)].Line
}

// fault returns what is wrong if the next token does not fit.
func (p *parser) fault() fault {
	if p.ended() {
		return fault{api.ErrTruncated, p.lineAt(p.at)}
	}
	return fault{api.ErrSyntax, p.lineAt(p.at)}
}

// finish insists that nothing is left.
func (p *parser) finish() {
	if !p.ended() {
		panic(p.fault())
	}
}

// skip reads the keyword or mark, if it is next, and reports whether it was.
func (p *parser) skip(text string) bool {
	if p.next().Text != text {
		return false
	}
	p.at++
	return true
}

// need reads the keyword or mark.
func (p *parser) need(text string) {
	if !p.skip(text) {
		panic(p.fault())
	}
}

// token reads a token of the kind.
func (p *parser) token(kind int) api.Token {
	token := p.next()
	if token.Kind != kind {
		panic(p.fault())
	}
	p.at++
	return token
}

func (p *parser) name() string {
	return p.token(api.TkName).Text
}

func (p *parser) number() int {
	return p.token(api.TkNumber).N
}

// listed reads at least one part, and others behind commas.
func listed[T any](p *parser, read func() T) []T {
	list := []T{read()}
	for p.skip(",") {
		list = append(list, read())
	}
	return list
}

func (p *parser) expression() api.Expr {
	e, at, err := exprtext.Take(p.tokens, p.at)
	switch err {
	case api.OK:
		p.at = at
		return e
	case api.ErrSyntax, api.ErrOverflow, api.ErrTruncated:
		panic(fault{err, p.lineAt(at)})
	}
	// The tokens are an expression that is not valid.
	panic(fault{err, 0})
}
