package cause

import (
	"slices"

	"foliot/api"
)

// nothing is what something hangs on that hangs on nothing more: no place in a graph.
const nothing = -1

// things tells of each thing on which others it hangs. Things are variables, expressions, guards, and what lets scopes begin; each call of a node has its own.
type things struct {
	nodes map[string]api.Node
	on    [][]int
}

// hangsOf tells what hangs on what in a program.
func hangsOf(p api.Program) [][]int {
	t := &things{nodes: map[string]api.Node{}}
	for _, n := range p.Nodes {
		t.nodes[n.Name] = n
	}
	main := t.nodes["main"]
	t.enter(main, nothing, nothing).eqs(main.Eqs)
	return t.on
}

// thing makes one that hangs on these.
func (t *things) thing(on ...int) int {
	t.on = append(t.on, slices.Clone(on))
	return len(t.on) - 1
}

// hang lets a thing hang on more.
func (t *things) hang(thing int, on ...int) {
	t.on[thing] = append(t.on[thing], on...)
}

// instance is a node as one call of it has it.
type instance struct {
	*things
	vars map[string]variable
	anew int // what lets the node begin
}

// variable is the thing that a variable is, and whether it begins with something of its own.
type variable struct {
	thing int
	init  bool
}

// scope is where things stand that are done together, and begin together.
type scope struct {
	*instance
	guard  int  // of the block in which it is
	begin  int  // what lets it begin
	chosen bool // is the block one of a present, or a state
}

// enter makes the things of a node's variables, as they are in a scope with this guard, which this lets begin.
func (t *things) enter(n api.Node, guard, begin int) scope {
	x := &instance{things: t, vars: map[string]variable{}, anew: begin}
	for _, v := range slices.Concat(n.In, n.Out, n.Local) {
		x.vars[v.Name] = variable{t.thing(), len(v.Init) > 0}
	}
	return scope{instance: x, guard: guard, begin: begin}
}

// put makes a thing that stands in this scope.
func (s scope) put(on ...int) int {
	thing := s.thing(on...)
	s.hang(thing, s.guard)
	return thing
}

// again is a scope within this one that one thing more lets begin.
func (s scope) again(cond int) scope {
	s.begin = s.thing(s.begin, cond)
	return s
}

// choice is a scope within this one that is a block with this guard.
func (s scope) choice(guard int) scope {
	s.guard, s.chosen = guard, true
	return s
}
