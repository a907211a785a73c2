package flat

import "foliot/api"

func (s *scope) eqs(l []api.Eq) tells {
	all := tells{}
	for _, q := range l {
		s.eq(q).each(all.put)
	}
	return all
}

// eq does an equation, and says what it tells.
func (s *scope) eq(q api.Eq) tells {
	switch q.Kind {
	case api.QDer:
		return s.der(q)
	case api.QReset:
		return s.reset(q)
	case api.QPresent:
		return s.present(q)
	case api.QAuto:
		return s.automaton(q)
	}
	return s.definition(q)
}

func (s *scope) definition(q api.Eq) tells {
	out := tells{}
	values := s.values(q.Args[0])
	for i, name := range q.Names {
		out.put(name, []told{{s.guard, values[i]}})
	}
	return out
}

// der tells what a state that goes on is, and notes how it does. Where it neither begins nor is begun anew, it is what it was ahead of the instant.
func (s *scope) der(q api.Eq) tells {
	name := q.Names[0]
	s.goesOn(s.conts[name], s.value(q.Args[0]))
	var args []int
	for _, e := range q.Init {
		args = append(args, s.begin(), s.value(e))
	}
	if len(q.Again) > 0 {
		value := s.value(q.Again[0])
		args = append(args, s.value(q.Again[1]), value)
	}
	x := s.op("mrg", append(args, s.last(name))...)
	return tells{name: {{s.guard, x}}}
}

// goesOn notes how a state goes on where this scope is active.
func (s *scope) goesOn(state, slope int) {
	c := &s.out.Conts[state]
	c.Slopes = append(c.Slopes, api.Slope{Guard: s.guard, Var: slope})
}

// reset does a block that begins anew by a condition. That is asked where it stands: what is not done begins nothing.
func (s *scope) reset(q api.Eq) tells {
	anew := s.op("copy", s.value(q.Args[0]))
	return s.inner(s.guard, anew).eqs(q.Blocks[0])
}

// present does two blocks, one of which is active. Where the condition is nothing, the second one is.
func (s *scope) present(q api.Eq) tells {
	first := s.op("gand", s.value(q.Args[0]))
	second := s.op("not", first)
	out := tells{}
	s.inner(first).eqs(q.Blocks[0]).each(out.put)
	s.inner(second).eqs(q.Blocks[1]).each(out.put)
	return out
}
