package meaning

import (
	"slices"

	"foliot/api"
)

// What is known at an instant of something that may be so.
const (
	unasked = iota
	asked   // and not yet told
	no
	yes
)

// active tells whether what stands in a scope is done.
func (i *instant) active(s *scope) bool {
	return s.outer == nil || i.active(s.outer) && s.isOn(i)
}

// begins tells whether a scope begins, or would, were it active.
func (i *instant) begins(s *scope) bool { return !s.begun || i.isAnew(s) }

// isAnew tells whether something lets a scope begin.
func (i *instant) isAnew(s *scope) bool {
	switch i.anew[s] {
	case asked:
		i.circle = true
	case unasked:
		i.anew[s] = asked
		is := no
		if s.outer != nil && i.isAnew(s.outer) || s.anew(i) {
			is = yes
		}
		i.anew[s] = is
	}
	return i.anew[s] == yes
}

// stateOf is the state in which an automaton is that stands in a scope.
func (i *instant) stateOf(s *scope, a *auto) string {
	if i.begins(s) {
		return a.first
	}
	return a.state
}

// variable is what one is; where it is asked for on the way to itself, there is nothing.
func (i *instant) variable(n *node, name string) api.Value {
	at := variable{n, name}
	c := i.vars[at]
	if c == nil {
		c = &cell{busy: true}
		i.vars[at] = c
		c.value = i.variableOf(n, name)
		c.busy = false
	}
	i.circle = i.circle || c.busy
	return c.value
}

func (i *instant) variableOf(n *node, name string) api.Value {
	for k, v := range n.In {
		if v.Name == name && n.caller == nil {
			return i.number(i.in[k])
		}
		if v.Name == name {
			return i.value(n.caller, &n.args[k])
		}
	}
	s, q := i.teller(n.root, name)
	switch {
	case q == nil:
		return i.last(n, name)
	case q.Kind == api.QDer:
		return i.der(s, q)
	}
	return i.part(s, &q.Args[0], slices.Index(q.Names, name))
}

// teller is the equation that tells a variable at this instant, and where it stands; none, if no active block tells it.
func (i *instant) teller(s *scope, name string) (*scope, *api.Eq) {
	for k := range s.eqs {
		q := &s.eqs[k]
		if slices.Contains(q.Names, name) {
			return s, q
		}
		if !tells(q, name) {
			continue
		}
		for _, b := range s.parts[q] {
			if i.active(b) {
				return i.teller(b, name)
			}
		}
	}
	return nil, nil
}

// last is what a variable was; of a der what it is ahead of this instant.
func (i *instant) last(n *node, name string) api.Value {
	if i.begins(n.root) {
		return n.inits[name]
	}
	return n.was[name]
}

func (i *instant) der(s *scope, q *api.Eq) api.Value {
	switch {
	case len(q.Init) > 0 && i.begins(s):
		return i.value(s, &q.Init[0])
	case len(q.Again) > 0 && isTrue(i.value(s, &q.Again[1])):
		return i.value(s, &q.Again[0])
	}
	return i.last(s.node, q.Names[0])
}

// rate is by what a der goes on behind this instant.
func (i *instant) rate(n *node, name string) api.Value {
	if s, q := i.teller(n.root, name); q != nil {
		return i.value(s, &q.Args[0])
	}
	return nought()
}

// part is one of the values that an expression gives.
func (i *instant) part(s *scope, e *api.Expr, k int) api.Value {
	switch e.Kind {
	case api.ETuple:
		return i.value(s, &e.Args[k])
	case api.ECall:
		n := s.calls[e]
		return i.variable(n, n.Out[k].Name)
	}
	return i.value(s, e)
}

// value is what an expression tells.
func (i *instant) value(s *scope, e *api.Expr) api.Value {
	switch e.Kind {
	case api.ENum:
		return i.number(literal(*e).Num)
	case api.EVar:
		return i.variable(s.node, e.Name)
	case api.ELast:
		return i.last(s.node, e.Name)
	case api.EUn, api.EBin, api.EIf:
		return i.sign(s, e)
	case api.ECall:
		return i.part(s, e, 0)
	case api.EUp:
		_, passes := i.passes[crossing{s, e}]
		return truth(passes)
	}
	return literal(*e)
}

// sign is what one tells of its parts, or of what they were.
func (i *instant) sign(s *scope, e *api.Expr) api.Value {
	switch e.Name {
	case "pre":
		return i.was(s, e)
	case "fby":
		if i.begins(s) {
			return i.value(s, &e.Args[0])
		}
		return i.was(s, e)
	case "->":
		if i.begins(s) {
			return i.value(s, &e.Args[0])
		}
		return i.value(s, &e.Args[1])
	}
	var l []api.Value
	for k := range e.Args {
		l = append(l, i.value(s, &e.Args[k]))
	}
	switch {
	case e.Kind == api.EIf:
		return i.op("sel", l...)
	case e.Kind == api.EUn && e.Name == "-":
		return i.op("neg", l...)
	}
	return i.op(e.Name, l...)
}

// was is what something was at the scope's last instant; nothing, when that begins.
func (i *instant) was(s *scope, e *api.Expr) api.Value {
	if i.begins(s) {
		return api.Value{}
	}
	return s.kept[e]
}
