package flat

import (
	"foliot/api"
	"foliot/kinds"
)

// up makes a crossing that asks an expression between instants, and tells whether it passes. That hangs on nothing of the expression.
func (s *scope) up(e api.Expr) int {
	a := &asked{scope: s, ders: s.dersIn(e)}
	a.line(e)
	s.out.Cross = append(s.out.Cross, api.Cross{Guard: s.guard, Ops: a.ops})
	return s.equation(api.FEq{Op: "flag", K: len(s.out.Cross) - 1})
}

// asked is what a crossing asks, operation by operation.
type asked struct {
	*scope
	ders []string // those that stand in it
	ops  []api.COp
}

// dersIn lists the ders that stand in an expression.
func (x *instance) dersIn(e api.Expr) []string {
	var out []string
	if _, is := x.conts[e.Name]; is && e.Kind == api.EVar {
		out = append(out, e.Name)
	}
	for _, a := range e.Args {
		out = append(out, x.dersIn(a)...)
	}
	return out
}

func (a *asked) put(op string, args ...int) int {
	a.ops = append(a.ops, api.COp{Op: op, Args: args})
	return len(a.ops) - 1
}

// line tells the operation that is an expression as it goes on. What stays as the instant told it is a variable; so only states, and what is made of them evenly, are asked for later.
func (a *asked) line(e api.Expr) int {
	switch {
	case a.stays(e):
		return a.put("var", a.value(e))
	case e.Kind == api.EVar:
		return a.put("cont", a.conts[e.Name])
	case e.Kind == api.EUn:
		return a.put("neg", a.line(e.Args[0]))
	case e.Kind == api.EIf:
		cond := a.value(e.Args[0])
		return a.put("sel", cond, a.line(e.Args[1]), a.line(e.Args[2]))
	}
	first, second := a.line(e.Args[0]), a.line(e.Args[1])
	switch {
	case e.Name != "*":
		return a.put(e.Name, first, second)
	case a.stays(e.Args[1]):
		return a.put("*", first, second, 1)
	}
	return a.put("*", first, second, 0)
}

// stays tells whether an expression stays as it is between instants.
func (a *asked) stays(e api.Expr) bool { return kinds.Of(e, a.ders) == 0 }
