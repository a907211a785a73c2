package flat

import (
	"slices"

	"foliot/api"
	"foliot/names"
)

// instance is a node as one call of it does it.
type instance struct {
	*builder
	top   *scope
	vars  map[string]int
	inits map[string]api.Value // what variables begin with, those that have something
	conts map[string]int       // the ders' states
	lasts map[string]int       // the variables that tell what others were last
}

// enter makes an instance that stands where this guard is true, and begins by these resets. Its variables are there; what they are is not told.
func (b *builder) enter(n api.Node, guard int, resets []int) *instance {
	x := &instance{
		builder: b,
		vars:    map[string]int{},
		inits:   map[string]api.Value{},
		conts:   map[string]int{},
		lasts:   map[string]int{},
	}
	x.top = &scope{instance: x, guard: guard, resets: resets, begins: none}
	for _, v := range slices.Concat(n.In, n.Out, n.Local) {
		x.vars[v.Name] = b.variable(v.Name)
		for _, e := range v.Init {
			x.inits[v.Name] = valueOf(e)
		}
	}
	for _, name := range names.Ders(n) {
		x.state(name)
	}
	return x
}

// state makes a der's state, and the variable that tells what it is ahead of an instant.
func (x *instance) state(name string) {
	k := len(x.out.Conts)
	x.out.Conts = append(x.out.Conts, api.Cont{Init: x.inits[name], Var: x.vars[name], Guard: x.top.guard, Resets: slices.Clone(x.top.resets)})
	x.conts[name] = k
	x.lasts[name] = x.top.equation(api.FEq{Op: "cont", K: k})
}

// does says what the node's own variables are, and tells its outputs.
func (x *instance) does(n api.Node) []int {
	all := x.top.eqs(n.Eqs)
	for _, v := range slices.Concat(n.Out, n.Local) {
		x.top.define(v.Name, x.joined(v.Name, all[v.Name]))
	}
	var out []int
	for _, v := range n.Out {
		out = append(out, x.vars[v.Name])
	}
	return out
}

// joined is what a variable is by all that blocks tell of it. What has a beginning hangs on what lets the node begin wherever a choice tells it, even if all its blocks do.
func (x *instance) joined(name string, l []told) api.FEq {
	if len(l) == 1 && l[0].guard == x.top.guard {
		return api.FEq{Op: "copy", Args: []int{l[0].value}}
	}
	q := api.FEq{Op: "mrg"}
	for _, y := range l {
		q.Args = append(q.Args, y.guard, y.value)
	}
	if _, there := x.inits[name]; there {
		q.Args = append(q.Args, x.last(name))
	}
	return q
}

// last is what a variable was at the node's last instant.
func (x *instance) last(name string) int {
	if read, there := x.lasts[name]; there {
		return read
	}
	read, place := x.top.memory(x.inits[name])
	x.top.keep(place, x.vars[name])
	x.lasts[name] = read
	return read
}

// call does what a node does, in a scope of the caller's, and tells its outputs.
func (s *scope) call(n api.Node, args []int) []int {
	x := s.enter(n, s.guard, s.resets)
	for i, v := range n.In {
		x.top.define(v.Name, api.FEq{Op: "copy", Args: []int{args[i]}})
	}
	return x.does(n)
}
