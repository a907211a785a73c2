package show

import (
	"bytes"

	"foliot/api"
)

// printer puts texts behind one another; what it is given is right.
type printer struct {
	bytes.Buffer
	blanks int // ahead of each line
}

func (p *printer) put(texts ...string) {
	for _, t := range texts {
		p.WriteString(t)
	}
}

// begin begins a line.
func (p *printer) begin(texts ...string) {
	for range p.blanks {
		p.WriteByte(' ')
	}
	p.put(texts...)
}

// line puts a whole line.
func (p *printer) line(texts ...string) {
	p.begin(texts...)
	p.WriteByte('\n')
}

// inside puts lines that stand two blanks further in.
func (p *printer) inside(lines func()) {
	p.blanks += 2
	lines()
	p.blanks -= 2
}

// row puts things with a comma and a blank between.
func row[T any](p *printer, l []T, one func(T)) {
	for i, x := range l {
		if i > 0 {
			p.put(", ")
		}
		one(x)
	}
}

// name puts a name: a row's thing.
func (p *printer) name(text string) { p.put(text) }

func (p *printer) enum(e api.Enum) {
	p.begin("type ", e.Name, " = { ")
	row(p, e.Ctors, p.name)
	p.put(" };\n")
}

func (p *printer) node(n api.Node) {
	word := "node "
	if n.Hybrid {
		word = "hybrid "
	}
	p.begin(word, n.Name, "(")
	row(p, n.In, p.variable)
	p.put(") returns (")
	row(p, n.Out, p.variable)
	p.put(")\n")
	p.locals(n.Local)
	p.line("let")
	p.inside(func() { p.eqs(n.Eqs) })
	p.line("tel")
}

func (p *printer) locals(l []api.Var) {
	if len(l) == 0 {
		return
	}
	p.line("var")
	p.inside(func() {
		for _, v := range l {
			p.begin()
			p.variable(v)
			p.put(";\n")
		}
	})
}

func (p *printer) variable(v api.Var) {
	p.put(v.Name, ": ", v.Type)
	if len(v.Init) > 0 {
		p.put(" init ")
		p.literal(v.Init[0])
	}
}

// literal puts a literal: unlike elsewhere, a - stands right ahead of its number.
func (p *printer) literal(e api.Expr) {
	if negative(e) {
		p.put("-")
		e = e.Args[0]
	}
	p.expr(e)
}

func (p *printer) expr(e api.Expr) {
	switch e.Kind {
	case api.ELast:
		p.put("last ", e.Name)
	case api.EUn:
		p.ofOne(e)
	case api.EBin:
		p.put("(")
		p.expr(e.Args[0])
		p.put(" ", e.Name, " ")
		p.expr(e.Args[1])
		p.put(")")
	case api.EIf:
		p.phrase("(if ", e.Args[0])
		p.phrase(" then ", e.Args[1])
		p.phrase(" else ", e.Args[2])
		p.put(")")
	case api.EUp:
		p.bracket("up", e.Args)
	case api.ECall, api.ETuple: // a tuple's Name is empty
		p.bracket(e.Name, e.Args)
	default:
		p.put(e.Name)
	}
}

// ofOne puts a word or a sign with its expression: the words that ask for a bracket have it behind them, the others within it.
func (p *printer) ofOne(e api.Expr) {
	if e.Name == "floor" || e.Name == "rat" {
		p.bracket(e.Name, e.Args)
		return
	}
	p.put("(", e.Name, " ")
	p.expr(e.Args[0])
	p.put(")")
}

// bracket puts a head, and expressions in brackets.
func (p *printer) bracket(head string, args []api.Expr) {
	p.put(head, "(")
	row(p, args, p.expr)
	p.put(")")
}

// phrase puts words, and an expression behind them.
func (p *printer) phrase(words string, e api.Expr) {
	p.put(words)
	p.expr(e)
}
