package types

import "foliot/api"

// node asks for the types of what stands in a node.
func (c *checker) node(n api.Node) {
	c.enter(n)
	for _, l := range [][]api.Var{n.In, n.Out, n.Local} {
		for _, v := range l {
			c.each(v.Init, v.Type)
		}
	}
	c.eqs(n.Eqs)
}

// each asks of expressions, one by one, that each has one type, which fits this one.
func (c *checker) each(l []api.Expr, wanted string) {
	for _, e := range l {
		c.must(fitAll(c.types(e), []string{wanted}), e.Pos)
	}
}

func (c *checker) eqs(l []api.Eq) {
	for _, q := range l {
		c.eq(q)
	}
}

// eq asks for the types of what stands in an equation, in the order in which that is read.
func (c *checker) eq(q api.Eq) {
	switch q.Kind {
	case api.QDef:
		c.definition(q.Names, q.Args[0])
	case api.QDer:
		c.der(q)
	case api.QReset:
		c.blocks(q.Blocks)
		c.each(q.Args, truth)
	case api.QPresent:
		c.each(q.Args, truth)
		c.blocks(q.Blocks)
	case api.QAuto:
		c.states(q.States)
	}
}

func (c *checker) blocks(l [][]api.Eq) {
	for _, block := range l {
		c.eqs(block)
	}
}

func (c *checker) states(l []api.State) {
	for _, s := range l {
		c.eqs(s.Eqs)
		for _, t := range s.Trans {
			c.each([]api.Expr{t.Cond}, truth)
		}
	}
}

// definition asks that an expression has a type for each name, which fits that of the variable.
func (c *checker) definition(names []string, e api.Expr) {
	var wanted []string
	for _, name := range names {
		wanted = append(wanted, c.vars[name].is)
	}
	c.must(fitAll(c.types(e), wanted), e.Pos)
}

// der asks of a state that goes on that it is a rat; so must be all that it becomes, and its slope. When it becomes something again is a truth.
func (c *checker) der(q api.Eq) {
	c.must(c.vars[q.Names[0]].is == exact, q.Pos)
	c.each(q.Args, exact)
	c.each(q.Init, exact)
	if len(q.Again) == 2 {
		c.each(q.Again[:1], exact)
		c.each(q.Again[1:], truth)
	}
}
