package kinds

import (
	"foliot/api"
	"foliot/names"
)

// checker asks what stands in nodes for its kind, and keeps where the first one stood that was wrong.
type checker struct {
	hybrids set     // the nodes that are hybrid
	hybrid  bool    // is this one
	der     matcher // looks for its ders
	wrong   bool
	place   int
}

func newChecker(p api.Program) *checker {
	c := &checker{hybrids: set{}}
	for _, n := range p.Nodes {
		if n.Hybrid {
			c.hybrids.add(n.Name)
		}
	}
	return c
}

// must says that a kind is wrong there, if what must hold does not.
func (c *checker) must(holds bool, place int) {
	if !holds && !c.wrong {
		c.wrong, c.place = true, place
	}
}

func (c *checker) node(n api.Node) {
	c.hybrid, c.der = n.Hybrid, readerOf(names.Ders(n))
	c.eqs(n.Eqs)
}

func (c *checker) eqs(l []api.Eq) {
	for _, q := range l {
		c.eq(q)
	}
}

// eq asks what stands in an equation for its kind, in the order in which that is read.
func (c *checker) eq(q api.Eq) {
	switch q.Kind {
	case api.QDef:
		c.exprs(q.Args)
	case api.QDer:
		c.must(c.hybrid, q.Pos)
		c.must(!c.der.in(q.Args[0]), q.Args[0].Pos)
		c.exprs(q.Args)
		c.exprs(q.Init)
		c.exprs(q.Again)
	case api.QReset:
		c.eqs(q.Blocks[0])
		c.exprs(q.Args)
	case api.QPresent:
		c.exprs(q.Args)
		c.eqs(q.Blocks[0])
		c.eqs(q.Blocks[1])
	case api.QAuto:
		c.states(q.States)
	}
}

func (c *checker) states(l []api.State) {
	for _, s := range l {
		c.eqs(s.Eqs)
		for _, t := range s.Trans {
			c.expr(t.Cond)
		}
	}
}

func (c *checker) exprs(l []api.Expr) {
	for _, e := range l {
		c.expr(e)
	}
}

// expr asks an expression ahead of its Args. What goes on between instants may be in hybrid nodes alone; what an up asks is asked between instants, so that it must be known there.
func (c *checker) expr(e api.Expr) {
	switch e.Kind {
	case api.EUp:
		c.must(c.hybrid && kindOf(e.Args[0], c.der) != other, e.Pos)
	case api.ECall:
		c.must(c.hybrid || !c.hybrids.has(e.Name), e.Pos)
	}
	c.exprs(e.Args)
}
