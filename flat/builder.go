package flat

import (
	"slices"

	"foliot/api"
)

// none is the guard of what is always done.
const none = -1

// builder makes a flat program.
type builder struct {
	nodes map[string]api.Node
	out   api.Flat
}

// flatten tells a node as a flat program.
func flatten(main api.Node, nodes map[string]api.Node) api.Flat {
	b := &builder{nodes: nodes}
	x := b.enter(main, none, nil)
	for k, v := range main.In {
		b.out.Ins = append(b.out.Ins, v.Name)
		x.top.define(v.Name, api.FEq{Op: "in", K: k})
	}
	b.out.Outs = x.does(main)
	return b.out
}

// variable makes one, whose equation comes later; what has no name in the source has none.
func (b *builder) variable(name string) int {
	b.out.Names = append(b.out.Names, name)
	b.out.Eqs = append(b.out.Eqs, api.FEq{})
	return len(b.out.Names) - 1
}

// scope is where things stand that are done together, if guard is true, and begin together: at first, and if one of resets is true.
type scope struct {
	*instance
	guard  int
	resets []int
	begins int // the variable that tells whether it begins; none, till that is asked
}

// inner is a scope within this one, with more that lets it begin.
func (s *scope) inner(guard int, resets ...int) *scope {
	return &scope{instance: s.instance, guard: guard, resets: slices.Concat(s.resets, resets), begins: none}
}

// op makes a variable that is what an operation tells.
func (s *scope) op(name string, args ...int) int {
	return s.equation(api.FEq{Op: name, Args: args})
}

func (s *scope) literal(v api.Value) int {
	return s.equation(api.FEq{Op: "lit", Lit: v})
}

func (s *scope) equation(q api.FEq) int {
	v := s.variable("")
	s.tell(v, q)
	return v
}

// tell says what a variable is.
func (s *scope) tell(v int, q api.FEq) {
	q.Var, q.Guard = v, s.guard
	s.out.Eqs[v] = q
}

// define says what a variable of the node is.
func (s *scope) define(name string, q api.FEq) { s.tell(s.vars[name], q) }

// memory makes one, and the variable that reads it; what it keeps is to be told of its place.
func (s *scope) memory(init api.Value) (read, place int) {
	place = len(s.out.Mems)
	s.out.Mems = append(s.out.Mems, api.Mem{Init: init, Guard: s.guard, Resets: slices.Clone(s.resets)})
	return s.equation(api.FEq{Op: "mem", K: place}), place
}

func (s *scope) keep(place, v int) { s.out.Mems[place].Next = v }

// begin is whether the scope begins: all that asks so asks one memory.
func (s *scope) begin() int {
	if s.begins == none {
		read, place := s.memory(truth(true))
		s.keep(place, s.literal(truth(false)))
		s.begins = read
	}
	return s.begins
}
