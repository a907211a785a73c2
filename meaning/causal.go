package meaning

import (
	"slices"

	"foliot/api"
	"foliot/graph"
)

// Causal tells whether nothing hangs on itself in a program that is taken up to layer 11, by the words of chapter 13 (13.2).
func Causal(p api.Program) bool {
	c := &causes{nodes: map[string]api.Node{}}
	for _, n := range p.Nodes {
		c.nodes[n.Name] = n
	}
	main := c.nodes["main"]
	c.node(main, make([][]int, len(main.In)), around{})
	_, ok := graph.Order(c.hangs)
	return ok
}

// causes tells of each thing on which others it hangs: of variables of each call of a node, guards, conditions of resets.
type causes struct {
	nodes map[string]api.Node
	hangs [][]int
}

// thing makes one that hangs on these.
func (c *causes) thing(on ...int) int {
	c.hangs = append(c.hangs, on)
	return len(c.hangs) - 1
}

// around is what stands around something: the guards of its blocks, and what lets its scope, and its node, begin.
type around struct {
	*causes
	vars               map[string]int
	init               map[string]int // how many literals a variable begins with
	guards, begin, top []int
	chosen             bool // in a block of a present, or in a state
}

// node makes the things of a node, whose inputs hang on these, and tells its outputs.
func (c *causes) node(n api.Node, args [][]int, in around) []int {
	a := around{causes: c, vars: map[string]int{}, init: map[string]int{}, guards: in.guards, begin: in.begin, top: in.begin}
	for k, v := range n.In {
		a.vars[v.Name] = c.thing(args[k]...)
	}
	for _, v := range slices.Concat(n.Out, n.Local) {
		a.vars[v.Name] = c.thing()
		a.init[v.Name] = len(v.Init)
	}
	a.eqs(n.Eqs)
	var out []int
	for _, v := range n.Out {
		out = append(out, a.vars[v.Name])
	}
	return out
}

func (a around) eqs(l []api.Eq) {
	for _, q := range l {
		a.eq(q)
	}
}

func (a around) eq(q api.Eq) {
	switch q.Kind {
	case api.QDef:
		parts := a.parts(q.Args[0])
		for k, name := range q.Names {
			a.tells(name, a.init[name] > 0, parts[k])
		}
	case api.QDer:
		a.expr(q.Args[0])
		on := slices.Concat(a.top, a.exprs(q.Init), a.exprs(q.Again))
		if len(q.Init) > 0 {
			on = append(on, a.begin...)
		}
		a.tells(q.Names[0], true, on)
	case api.QReset:
		cond := a.thing(a.expr(q.Args[0])...)
		a.begin = slices.Concat(a.begin, []int{cond})
		a.eqs(q.Blocks[0])
	case api.QPresent:
		guard := a.thing(a.expr(q.Args[0])...)
		a.within(guard).eqs(q.Blocks[0])
		a.within(guard).eqs(q.Blocks[1])
	case api.QAuto:
		guard := a.thing(slices.Concat(a.begin, a.guards)...)
		for _, x := range q.States {
			b := a.within(guard)
			b.begin = slices.Concat(b.begin, []int{guard})
			b.eqs(x.Eqs)
			for _, t := range x.Trans {
				b.expr(t.Cond)
			}
		}
	}
}

// within is what stands around something in a block with this guard.
func (a around) within(guard int) around {
	a.guards = slices.Concat(a.guards, []int{guard})
	a.chosen = true
	return a
}

// tells lets a variable hang on what an equation asks that tells it here. What stays as it was, where no block tells it, hangs on what lets the node begin.
func (a around) tells(name string, stays bool, on []int) {
	v := a.vars[name]
	a.hangs[v] = slices.Concat(a.hangs[v], on, a.guards)
	if a.chosen && stays {
		a.hangs[v] = append(a.hangs[v], a.top...)
	}
}

// parts is on what each of the values hangs that an expression gives.
func (a around) parts(e api.Expr) [][]int {
	var out [][]int
	switch e.Kind {
	case api.ETuple:
		for _, x := range e.Args {
			out = append(out, a.expr(x))
		}
	case api.ECall:
		var args [][]int
		for _, x := range e.Args {
			args = append(args, a.expr(x))
		}
		for _, v := range a.node(a.nodes[e.Name], args, a) {
			out = append(out, []int{v})
		}
	default:
		out = append(out, a.expr(e))
	}
	return out
}

func (a around) exprs(l []api.Expr) []int {
	var out []int
	for _, e := range l {
		out = append(out, a.expr(e)...)
	}
	return out
}

// expr is on what an expression hangs that gives one value; and makes what is in it, whether it hangs on that or not.
func (a around) expr(e api.Expr) []int {
	on := slices.Clone(a.guards)
	switch {
	case e.Kind == api.ECall:
		return append(on, a.parts(e)[0]...)
	case e.Kind == api.EVar:
		return append(on, a.vars[e.Name])
	case e.Kind == api.ELast:
		return append(on, a.top...)
	case e.Kind == api.EUp:
		a.exprs(e.Args)
		return on
	case e.Name == "pre":
		a.exprs(e.Args)
		return append(on, a.begin...)
	case e.Name == "fby":
		a.expr(e.Args[1])
		return slices.Concat(on, a.begin, a.expr(e.Args[0]))
	case e.Name == "->":
		on = append(on, a.begin...)
	}
	return append(on, a.exprs(e.Args)...)
}
