package classparse

import (
	"testbench/api"
	"testbench/num"
)

func (p *parser) source() []api.Class {
	var src []api.Class
	for !p.ended() {
		src = append(src, p.class())
	}
	return src
}

func (p *parser) class() api.Class {
	p.need("class")
	c := api.Class{Name: p.name()}
	if p.skip("extends") {
		c.Parent = p.name()
	}
	p.need("{")
	for mode, found := p.mode(); found; mode, found = p.mode() {
		c.Fields = append(c.Fields, p.field(mode))
	}
	for p.skip("constraint") {
		c.Blocks = append(c.Blocks, api.Block{Name: p.name(), Items: p.body()})
	}
	p.need("}")
	return c
}

// mode reads the word that a field begins with, if there is one.
func (p *parser) mode() (mode int, found bool) {
	switch {
	case p.skip("rand"):
		return api.MoRand, true
	case p.skip("randc"):
		return api.MoCyclic, true
	case p.skip("state"):
		return api.MoState, true
	}
	return 0, false
}

// field reads what follows the word for the mode.
func (p *parser) field(mode int) api.Field {
	f := api.Field{Name: p.name(), Mode: mode}
	if p.skip("[") {
		f.Size = p.size()
		p.need("]")
	}
	p.need(":")
	f.Width = p.number()
	if mode == api.MoState {
		p.need("=")
		f.Init = p.number()
	}
	p.need(";")
	return f
}

// size reads the size of an array. 0 does not fit, since it stands for a field that is none.
func (p *parser) size() int {
	if p.next().Text == "0" {
		panic(p.fault())
	}
	return p.number()
}

// body reads constraints in braces.
func (p *parser) body() []api.Item {
	p.need("{")
	l := p.items()
	p.need("}")
	return l
}

// items reads constraints up to the end or to a brace that closes.
func (p *parser) items() []api.Item {
	var l []api.Item
	for !p.ended() && p.next().Text != "}" {
		l = append(l, p.item())
	}
	return l
}

func (p *parser) item() api.Item {
	switch {
	case p.skip("soft"):
		return p.plain(api.ItSoft)
	case p.skip("dist"):
		return p.dist()
	case p.skip("if"):
		return p.choice()
	case p.skip("each"):
		return p.each()
	case p.skip("solve"):
		return p.solve()
	}
	return p.plain(api.ItHard)
}

// plain reads the expression of a constraint of the kind.
func (p *parser) plain(kind int) api.Item {
	item := api.Item{Kind: kind, Expr: p.expression()}
	p.need(";")
	return item
}

func (p *parser) dist() api.Item {
	item := api.Item{Kind: api.ItDist, Name: p.target()}
	p.need("{")
	item.Weights = listed(p, p.weight)
	p.need("}")
	p.need(";")
	return item
}

func (p *parser) weight() api.Weight {
	w := api.Weight{Lo: p.number()}
	w.Hi = w.Lo
	if p.skip("..") {
		w.Hi = p.number()
	}
	w.Each = p.skip(":=")
	if !w.Each {
		p.need(":/")
	}
	w.Weight = p.number()
	return w
}

func (p *parser) choice() api.Item {
	p.need("(")
	item := api.Item{Kind: api.ItIf, Expr: p.expression()}
	p.need(")")
	item.Items = p.body()
	if p.skip("else") {
		item.Else = p.body()
	}
	return item
}

func (p *parser) each() api.Item {
	item := api.Item{Kind: api.ItEach, Index: p.name()}
	p.need("in")
	item.Name = p.name()
	item.Items = p.body()
	return item
}

func (p *parser) solve() api.Item {
	item := api.Item{Kind: api.ItSolve, Before: listed(p, p.target)}
	p.need("before")
	item.After = listed(p, p.target)
	p.need(";")
	return item
}

// target reads the name of a variable, of an array or of an element.
func (p *parser) target() string {
	name := p.name()
	if p.skip("[") {
		name += "[" + num.Format(p.number()) + "]"
		p.need("]")
	}
	return name
}
