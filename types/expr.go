package types

import (
	"strings"

	"foliot/api"
)

// checker tells types, and keeps where the first one stood that was wrong: what it tells from then on means nothing.
type checker struct {
	scope
	wrong bool
	place int
}

func newChecker(p api.Program) *checker {
	return &checker{scope: newScope(p)}
}

// must says that a type is wrong there, if what must hold does not.
func (c *checker) must(holds bool, place int) {
	if !holds && !c.wrong {
		c.wrong, c.place = true, place
	}
}

// types tells the types of an expression.
func (c *checker) types(e api.Expr) []string {
	args := make([]string, 0, len(e.Args))
	for _, a := range e.Args {
		args = append(args, c.one(a))
	}
	switch e.Kind {
	case api.ETuple:
		return args
	case api.ECall:
		return c.called(e, args)
	case api.EUn, api.EBin, api.EIf, api.EUp:
		t, ok := ruleOf(e).of(args)
		c.must(ok, e.Pos)
		return []string{t}
	}
	return []string{c.leaf(e)}
}

// one tells the type of an expression that must have just one.
func (c *checker) one(e api.Expr) string {
	l := c.types(e)
	c.must(len(l) == 1, e.Pos)
	if len(l) == 0 {
		return ""
	}
	return l[0]
}

// called tells the types of what a call gives.
func (c *checker) called(e api.Expr, args []string) []string {
	n, there := c.nodes[e.Name]
	c.must(there && fitAll(args, typesOf(n.In)), e.Pos)
	return typesOf(n.Out)
}

// leaf tells the type of an expression without Args.
func (c *checker) leaf(e api.Expr) string {
	switch e.Kind {
	case api.EBool:
		return truth
	case api.ENum:
		if strings.Contains(e.Name, ".") {
			return exact
		}
		return number
	case api.ECtor:
		t, there := c.ctors[e.Name]
		c.must(there, e.Pos)
		return t.is
	}
	t := c.vars[e.Name].is
	c.must(t != "", e.Pos)
	return t
}
