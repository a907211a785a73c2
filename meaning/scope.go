package meaning

import (
	"slices"

	"foliot/api"
	"foliot/names"
)

// node is a node as one call of it does it.
type node struct {
	api.Node
	root   *scope
	caller *scope     // none of main
	args   []api.Expr // what its inputs are there
	inits  map[string]api.Value
	ders   []string
	was    map[string]api.Value // what its variables were at its last instant; ders go on from there
	rates  map[string]api.Value // by what ders go on, those that do
}

// scope is what begins together and is active together.
type scope struct {
	*node
	outer *scope // none of main
	eqs   []api.Eq
	exprs []*api.Expr // those that are done in it
	inner []*scope
	isOn  func(*instant) bool // is it active, if the outer one is
	anew  func(*instant) bool // does something of its own let it begin
	begun bool                // was it active since it began
	kept  map[*api.Expr]api.Value
	calls map[*api.Expr]*node
	parts map[*api.Eq][]*scope // blocks, states
	autos map[*api.Eq]*auto
}

// auto is where an automaton is.
type auto struct {
	first, state string
	anew         bool // was it gone to by then
}

func newNode(nodes map[string]api.Node, def api.Node, caller *scope, args []api.Expr) *node {
	n := &node{
		Node:   def,
		caller: caller,
		args:   args,
		inits:  map[string]api.Value{},
		ders:   names.Ders(def),
		was:    map[string]api.Value{},
		rates:  map[string]api.Value{},
	}
	for _, v := range slices.Concat(def.Out, def.Local) {
		for _, e := range v.Init {
			n.inits[v.Name] = literal(e)
		}
	}
	n.root = newScope(n, caller)
	n.root.fill(nodes, def.Eqs)
	return n
}

func newScope(n *node, outer *scope) *scope {
	s := &scope{
		node:  n,
		outer: outer,
		isOn:  func(*instant) bool { return true },
		anew:  func(*instant) bool { return false },
		kept:  map[*api.Expr]api.Value{},
		calls: map[*api.Expr]*node{},
		parts: map[*api.Eq][]*scope{},
		autos: map[*api.Eq]*auto{},
	}
	if outer != nil {
		outer.inner = append(outer.inner, s)
	}
	return s
}

// fill puts equations into a scope, and what stands in them.
func (s *scope) fill(nodes map[string]api.Node, l []api.Eq) {
	s.eqs = l
	for i := range l {
		q := &l[i]
		s.exprsOf(nodes, q.Args)
		s.exprsOf(nodes, q.Init)
		s.exprsOf(nodes, q.Again)
		for k, block := range q.Blocks {
			s.block(q, k).fill(nodes, block)
		}
		if q.Kind == api.QAuto {
			s.automaton(nodes, q)
		}
	}
}

// block makes the scope of a block of a reset, or of a present.
func (s *scope) block(q *api.Eq, k int) *scope {
	b := newScope(s.node, s)
	s.parts[q] = append(s.parts[q], b)
	holds := func(i *instant) bool { return isTrue(i.value(s, &q.Args[0])) }
	if q.Kind == api.QReset {
		b.anew = func(i *instant) bool { return i.active(s) && holds(i) }
	} else {
		b.isOn = func(i *instant) bool { return holds(i) == (k == 0) }
	}
	return b
}

func (s *scope) automaton(nodes map[string]api.Node, q *api.Eq) {
	first := q.States[0].Name
	a := &auto{first: first, state: first}
	s.autos[q] = a
	for i := range q.States {
		x := &q.States[i]
		b := newScope(s.node, s)
		s.parts[q] = append(s.parts[q], b)
		b.isOn = func(i *instant) bool { return i.stateOf(s, a) == x.Name }
		b.anew = func(i *instant) bool { return i.active(b) && a.anew && !i.begins(s) }
		b.fill(nodes, x.Eqs)
		for k := range x.Trans {
			b.exprOf(nodes, &x.Trans[k].Cond)
		}
	}
}

func (s *scope) exprsOf(nodes map[string]api.Node, l []api.Expr) {
	for i := range l {
		s.exprOf(nodes, &l[i])
	}
}

// exprOf puts an expression into a scope: all that is part of it, ahead of itself. What an up asks is no part of the instant.
func (s *scope) exprOf(nodes map[string]api.Node, e *api.Expr) {
	if e.Kind != api.EUp {
		s.exprsOf(nodes, e.Args)
	}
	if e.Kind == api.ECall {
		s.calls[e] = newNode(nodes, nodes[e.Name], s, e.Args)
	}
	s.exprs = append(s.exprs, e)
}

// each hands on a scope, and all that are in it.
func (s *scope) each(do func(*scope)) {
	do(s)
	for _, b := range s.inner {
		b.each(do)
	}
}

// tells tells whether an equation tells a variable, in some block of it.
func tells(q *api.Eq, name string) bool {
	if slices.Contains(q.Names, name) {
		return true
	}
	for _, l := range blocksOf(q) {
		for i := range l {
			if tells(&l[i], name) {
				return true
			}
		}
	}
	return false
}

func blocksOf(q *api.Eq) [][]api.Eq {
	l := slices.Clone(q.Blocks)
	for _, x := range q.States {
		l = append(l, x.Eqs)
	}
	return l
}
