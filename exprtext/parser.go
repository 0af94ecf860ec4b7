package exprtext

import (
	"testbench/api"
	"testbench/lexer"
	"testbench/num"
)

// fault is what a parser raises by panic: an error, and the index of the token that has it.
type fault struct {
	err api.Errno
	at  int
}

// parser reads an expression from the tokens. next is the token with the index at; it is the zero token, which continues nothing, behind the last token and in place of one that is not valid. The text of a valid token tells which one it is.
type parser struct {
	tokens []api.Token
	at     int
	next   api.Token
}

func parserAt(tokens []api.Token, at int) *parser {
	p := &parser{tokens: tokens}
	p.move(at)
	return p
}

// move goes to the token with the index.
func (p *parser) move(at int) {
	p.at, p.next = at, api.Token{}
	if at < len(p.tokens) && isValid(p.tokens[at]) {
		p.next = p.tokens[at]
	}
}

func isValid(token api.Token) bool {
	_, err := lexer.Join([]api.Token{token})
	return err == api.OK
}

// fault returns what is wrong if the next token does not continue the expression.
func (p *parser) fault() fault {
	if p.at == len(p.tokens) {
		return fault{api.ErrTruncated, p.at}
	}
	return fault{api.ErrSyntax, p.at}
}

// skip reads the keyword or mark, if it is next, and reports whether it was.
func (p *parser) skip(text string) bool {
	if p.next.Text != text {
		return false
	}
	p.move(p.at + 1)
	return true
}

// need reads the keyword or mark.
func (p *parser) need(text string) {
	if !p.skip(text) {
		panic(p.fault())
	}
}

// name reads a name.
func (p *parser) name() string {
	token := p.next
	if token.Kind != api.TkName {
		panic(p.fault())
	}
	p.move(p.at + 1)
	return token.Text
}

// number reads a number.
func (p *parser) number() int {
	token := p.next
	if token.Kind != api.TkNumber {
		panic(p.fault())
	}
	if token.N > api.MaxWord {
		panic(fault{api.ErrOverflow, p.at})
	}
	p.move(p.at + 1)
	return token.N
}

// choice reads an expression of level 1.
func (p *parser) choice() api.Expr {
	condition := p.operation(levelIf + 1)
	if !p.skip("?") {
		return condition
	}
	chosen := p.choice()
	p.need(":")
	return node(api.ExIf, condition, chosen, p.choice())
}

// operation reads an expression of the level, which is from 2 to 13.
func (p *parser) operation(level int) api.Expr {
	e := p.prefixed()
	// The level of e: no operator of a higher level continues it. (Behind an operand there is none left, but behind the "}" of ranges one may stand.)
	reached := levelPrefix
	for {
		b, found := binaryMarked(p.next.Text)
		switch {
		case found && b.level >= level && b.level <= reached:
			p.need(b.mark)
			e, reached = p.joined(b, e), b.level
		case level <= levelInside && p.skip(inside):
			e, reached = p.ranged(e), levelInside
		default:
			return e
		}
	}
}

// joined reads the right operand of a binary operator, whose left one is e.
func (p *parser) joined(b binary, e api.Expr) api.Expr {
	_, right := operandLevels(b.level)
	operand := p.operation(right)
	if b.swapped {
		return node(b.op, operand, e)
	}
	return node(b.op, e, operand)
}

// ranged reads the ranges in which e may be.
func (p *parser) ranged(e api.Expr) api.Expr {
	operands := []api.Expr{e}
	p.need("{")
	for {
		operands = append(operands, p.choice())
		p.need("..")
		operands = append(operands, p.choice())
		if !p.skip(",") {
			break
		}
	}
	p.need("}")
	return node(api.ExInside, operands...)
}

// prefixed reads an expression of level 13.
func (p *parser) prefixed() api.Expr {
	operator, found := prefixMarked(p.next.Text)
	if !found {
		return p.primary()
	}
	p.need(operator.mark)
	return node(operator.op, p.prefixed())
}

// primary reads an expression of level 14.
func (p *parser) primary() api.Expr {
	switch {
	case p.next.Kind == api.TkNumber:
		return api.Expr{Op: api.ExConst, N: p.number()}
	case p.next.Kind == api.TkName:
		return p.named(p.name())
	}
	p.need("(")
	e := p.choice()
	p.need(")")
	return e
}

// named reads the rest of an expression of level 14 that begins with the name.
func (p *parser) named(name string) api.Expr {
	e := api.Expr{Op: api.ExVar, Name: name}
	switch {
	case name == sum && p.skip("("):
		e = api.Expr{Op: api.ExSum, Name: p.name()}
		p.need(")")
	case name == ones && p.skip("("):
		e = node(api.ExOnes, p.choice())
		p.need(")")
	case p.skip("["):
		e = api.Expr{Op: api.ExElem, Name: name, Args: []api.Expr{p.choice()}}
		p.need("]")
	case p.skip("@"):
		e.Name = name + "[" + num.Format(p.number()) + "]"
	}
	return e
}

func node(op int, operands ...api.Expr) api.Expr {
	return api.Expr{Op: op, Args: operands}
}
