package show_test

import (
	"math/rand"

	"foliot/api"
)

// spoiler changes one thing somewhere in a tree: what it is counted down to as it goes through.
type spoiler struct {
	r     *rand.Rand
	steps int // how many places are yet to be left
	done  bool
}

// here tells whether this is the place, once.
func (s *spoiler) here() bool {
	s.steps--
	if s.steps == 0 {
		s.done = true
		return true
	}
	return false
}

func (s *spoiler) text() string {
	texts := []string{"", "x", "if", "A", "1", "1.", ".5", "1.5", "-", "not", "floor", "->", "true", "rat", "int", "x ", " x", "x y", "é", "-1", "x.y", "()", "x, y", "--", "Type", "9x"}
	return texts[s.r.Intn(len(texts))]
}

func (s *spoiler) name(text *string) {
	if s.here() {
		*text = s.text()
	}
}

func (s *spoiler) names(l *[]string) {
	if s.here() {
		*l = changed(s.r, *l, s.text())
	}
	for i := range *l {
		s.name(&(*l)[i])
	}
}

// changed tells a list with one thing more, or one less.
func changed[T any](r *rand.Rand, l []T, more T) []T {
	if len(l) > 0 && r.Intn(2) == 0 {
		return l[:len(l)-1]
	}
	return append(l[:len(l):len(l)], more)
}

func (s *spoiler) exprs(l *[]api.Expr) {
	if s.here() {
		*l = changed(s.r, *l, api.Expr{Kind: s.r.Intn(13), Name: s.text()})
	}
	for i := range *l {
		s.expr(&(*l)[i])
	}
}

func (s *spoiler) expr(e *api.Expr) {
	if s.here() {
		e.Kind = s.r.Intn(14) - 1
	}
	s.name(&e.Name)
	s.exprs(&e.Args)
}

func (s *spoiler) eqs(l *[]api.Eq) {
	for i := range *l {
		q := &(*l)[i]
		if s.here() {
			q.Kind = s.r.Intn(8) - 1
		}
		s.names(&q.Names)
		s.exprs(&q.Args)
		s.exprs(&q.Init)
		s.exprs(&q.Again)
		if s.here() {
			q.Blocks = changed(s.r, q.Blocks, nil)
		}
		if s.here() {
			q.States = changed(s.r, q.States, api.State{Name: "A"})
		}
		for j := range q.Blocks {
			s.eqs(&q.Blocks[j])
		}
		for j := range q.States {
			s.state(&q.States[j])
		}
	}
}

func (s *spoiler) state(x *api.State) {
	s.name(&x.Name)
	s.eqs(&x.Eqs)
	for i := range x.Trans {
		s.name(&x.Trans[i].To)
		s.expr(&x.Trans[i].Cond)
	}
}

func (s *spoiler) variables(l *[]api.Var) {
	if s.here() {
		*l = changed(s.r, *l, api.Var{Name: "x", Type: s.text()})
	}
	for i := range *l {
		s.name(&(*l)[i].Name)
		s.name(&(*l)[i].Type)
		s.exprs(&(*l)[i].Init)
	}
}

func (s *spoiler) program(p *api.Program) {
	for i := range p.Enums {
		s.name(&p.Enums[i].Name)
		s.names(&p.Enums[i].Ctors)
	}
	for i := range p.Nodes {
		n := &p.Nodes[i]
		s.name(&n.Name)
		s.variables(&n.In)
		s.variables(&n.Out)
		s.variables(&n.Local)
		s.eqs(&n.Eqs)
	}
}
