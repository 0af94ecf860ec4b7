package classtext

import (
	"strings"

	"testbench/api"
	"testbench/exprtext"
	"testbench/num"
)

const tab = "    " // the blanks of one indentation

// page collects the lines of classes and constraints, all of which must be valid.
type page struct{ text strings.Builder }

// line adds a line that consists of the parts.
func (p *page) line(indent int, parts ...string) {
	p.text.WriteString(strings.Repeat(tab, indent))
	for _, part := range parts {
		p.text.WriteString(part)
	}
	p.text.WriteByte('\n')
}

func (p *page) class(c api.Class) {
	p.line(0, "class ", c.Name, parentText(c.Parent), " {")
	for _, f := range c.Fields {
		p.line(1, fieldText(f))
	}
	for _, b := range c.Blocks {
		p.line(1, "constraint ", b.Name, " {")
		p.items(b.Items, 2)
		p.line(1, "}")
	}
	p.line(0, "}")
}

func (p *page) items(l []api.Item, indent int) {
	for _, item := range l {
		write := writer(item.Kind)
		write(p, item, indent)
	}
}

// writer returns the method that adds the lines of a constraint of the kind.
func writer(kind int) func(p *page, item api.Item, indent int) {
	writers := [...]func(p *page, item api.Item, indent int){
		api.ItHard:  (*page).hard,
		api.ItSoft:  (*page).soft,
		api.ItDist:  (*page).dist,
		api.ItIf:    (*page).choice,
		api.ItEach:  (*page).each,
		api.ItSolve: (*page).solve,
	}
	return writers[kind]
}

func (p *page) hard(item api.Item, indent int) {
	p.line(indent, exprtext.Print(item.Expr), ";")
}

func (p *page) soft(item api.Item, indent int) {
	p.line(indent, "soft ", exprtext.Print(item.Expr), ";")
}

func (p *page) dist(item api.Item, indent int) {
	p.line(indent, "dist ", item.Name, " { ", Weights(item.Weights), " };")
}

func (p *page) choice(item api.Item, indent int) {
	p.line(indent, "if (", exprtext.Print(item.Expr), ") {")
	p.items(item.Items, indent+1)
	if len(item.Else) > 0 {
		p.line(indent, "} else {")
		p.items(item.Else, indent+1)
	}
	p.line(indent, "}")
}

func (p *page) each(item api.Item, indent int) {
	p.line(indent, "each ", item.Index, " in ", item.Name, " {")
	p.items(item.Items, indent+1)
	p.line(indent, "}")
}

func (p *page) solve(item api.Item, indent int) {
	p.line(indent, "solve ", strings.Join(item.Before, ", "), " before ", strings.Join(item.After, ", "), ";")
}

func weightText(w api.Weight) string {
	text := num.Format(w.Lo)
	if w.Hi != w.Lo {
		text += " .. " + num.Format(w.Hi)
	}
	if w.Each {
		return text + " := " + num.Format(w.Weight)
	}
	return text + " :/ " + num.Format(w.Weight)
}

// parentText returns what stands behind the name of a class with the parent, which is empty if it has none.
func parentText(parent string) string {
	if parent == "" {
		return ""
	}
	return " extends " + parent
}

func fieldText(f api.Field) string {
	text := modeText(f.Mode) + " " + f.Name
	if f.Size > 0 {
		text += "[" + num.Format(f.Size) + "]"
	}
	text += " : " + num.Format(f.Width)
	if f.Mode == api.MoState {
		text += " = " + num.Format(f.Init)
	}
	return text + ";"
}

// modeText returns the keyword of a field with the mode.
func modeText(mode int) string {
	switch mode {
	case api.MoRand:
		return "rand"
	case api.MoCyclic:
		return "randc"
	}
	return "state"
}
