package names

import (
	"slices"

	"foliot/api"
)

// scope is what names mean within a node.
type scope struct {
	*program
	vars map[string]variable
}

// variable is what is known of a variable of the node.
type variable struct {
	own, init bool
}

func (p *program) node(n api.Node) {
	s := &scope{p, map[string]variable{}}
	s.variables(n.In, false)
	s.variables(n.Out, true)
	s.variables(n.Local, true)
	r := reader{atEq: s.defined, atExpr: s.named, atAuto: statesOf}
	r.eqs(n.Eqs)
	names := set{}
	for _, t := range s.toldByAll(n.Eqs) {
		names.add(t.name)
	}
	s.ders(n.Eqs)
	for _, v := range slices.Concat(n.Out, n.Local) {
		must(names.has(v.Name), api.ErrDef, v.Pos)
	}
}

func (s *scope) variables(l []api.Var, own bool) {
	for _, v := range l {
		_, twice := s.vars[v.Name]
		must(!twice, api.ErrTwice, v.Pos)
		must(s.isType(v.Type), api.ErrName, v.Pos)
		for _, e := range v.Init {
			s.named(e)
		}
		s.vars[v.Name] = variable{own, len(v.Init) > 0}
	}
}

func (s *scope) isType(name string) bool {
	return name == "bool" || name == "int" || name == "rat" || s.enums.has(name)
}

// defined asks that what an equation by itself defines is the node's own.
func (s *scope) defined(q api.Eq) {
	for _, name := range q.Names {
		must(s.vars[name].own, api.ErrDef, q.Pos)
	}
}

// named asks that an expression's name means something that it may mean.
func (s *scope) named(e api.Expr) {
	switch e.Kind {
	case api.EVar:
		_, ok := s.vars[e.Name]
		must(ok, api.ErrName, e.Pos)
	case api.ECtor:
		must(s.ctors.has(e.Name), api.ErrName, e.Pos)
	case api.ECall:
		at, ok := s.nodes[e.Name]
		must(ok, api.ErrName, e.Pos)
		must(len(e.Args) == s.ins[at], api.ErrCall, e.Pos)
	case api.ELast:
		v := s.vars[e.Name]
		must(v.own && v.init, api.ErrDef, e.Pos)
	}
}

// statesOf asks that an automaton's states have names of their own; then, transition by transition, that it goes to one of them.
func statesOf(l []api.State) func(api.Trans) {
	states := set{}
	for _, x := range l {
		must(states.add(x.Name), api.ErrTwice, x.Pos)
	}
	return func(t api.Trans) { must(states.has(t.To), api.ErrName, t.Pos) }
}

// ders asks of each der that begins with its node that there is something with which it does. Those within a present or an automaton were asked for more (ErrBranch).
func (s *scope) ders(l []api.Eq) {
	for _, q := range l {
		switch q.Kind {
		case api.QDer:
			must(len(q.Init) > 0 || s.vars[q.Names[0]].init, api.ErrDef, q.Pos)
		case api.QReset:
			s.ders(q.Blocks[0])
		}
	}
}
