package cause

import "foliot/api"

// values makes a thing for each value that an expression gives: of a tuple, of a call there may be more than one.
func (s scope) values(e api.Expr) []int {
	switch e.Kind {
	case api.ECall:
		return s.call(e)
	case api.ETuple:
		return s.exprs(e.Args)
	}
	return []int{s.expr(e)}
}

func (s scope) exprs(l []api.Expr) []int {
	var out []int
	for _, e := range l {
		out = append(out, s.expr(e))
	}
	return out
}

// call makes the things of a node that is called, and tells its outputs.
func (s scope) call(e api.Expr) []int {
	n := s.nodes[e.Name]
	inner := s.enter(n, s.guard, s.begin)
	args := s.exprs(e.Args)
	for i, v := range n.In {
		inner.tell(v.Name, args[i])
	}
	inner.eqs(n.Eqs)
	var out []int
	for _, v := range n.Out {
		out = append(out, inner.vars[v.Name].thing)
	}
	return out
}

// expr makes the thing of an expression that gives one value. What stands in it has things too, be it hung on or not: a call in a pre may hang on itself all the same.
func (s scope) expr(e api.Expr) int {
	switch e.Kind {
	case api.EVar:
		return s.put(s.vars[e.Name].thing)
	case api.ELast:
		return s.put(s.anew)
	case api.ECall:
		return s.put(s.call(e)[0])
	}
	parts := s.exprs(e.Args)
	switch {
	case e.Kind == api.EUp:
		return s.put()
	case e.Name == "pre":
		return s.put(s.begin)
	case e.Name == "fby":
		return s.put(s.begin, parts[0])
	case e.Name == "->":
		return s.put(s.begin, parts[0], parts[1])
	}
	return s.put(parts...)
}
