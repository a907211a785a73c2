package cause

import (
	"slices"

	"foliot/api"
)

func (s scope) eqs(l []api.Eq) {
	for _, q := range l {
		s.eq(q)
	}
}

// eq notes on what an equation lets variables hang; and makes the things of what stands in it.
func (s scope) eq(q api.Eq) {
	switch q.Kind {
	case api.QDef:
		s.definition(q)
	case api.QDer:
		s.der(q)
	case api.QReset:
		s.again(s.expr(q.Args[0])).eqs(q.Blocks[0])
	case api.QPresent:
		inner := s.choice(s.put(s.expr(q.Args[0])))
		inner.eqs(q.Blocks[0])
		inner.eqs(q.Blocks[1])
	case api.QAuto:
		s.automaton(q)
	}
}

func (s scope) definition(q api.Eq) {
	values := s.values(q.Args[0])
	for i, name := range q.Names {
		s.tell(name, values[i])
		if s.chosen && s.vars[name].init {
			s.tell(name, s.anew) // where no block tells it, it stays as it was
		}
	}
}

// der notes on what a state hangs that goes on. What it goes on by is asked only behind the instant.
func (s scope) der(q api.Eq) {
	s.expr(q.Args[0])
	name := q.Names[0]
	s.tell(name, s.anew)
	if len(q.Init) > 0 {
		s.tell(name, s.begin)
	}
	s.tell(name, slices.Concat(s.exprs(q.Init), s.exprs(q.Again))...)
}

// tell lets a variable hang on what an equation asks that stands in this scope.
func (s scope) tell(name string, on ...int) {
	thing := s.vars[name].thing
	s.hang(thing, on...)
	s.hang(thing, s.guard)
}

// automaton makes the things of its states. In which one it is hangs on no condition of theirs: they tell where it goes next.
func (s scope) automaton(q api.Eq) {
	guard := s.put(s.begin)
	inner := s.choice(guard).again(guard)
	for _, x := range q.States {
		inner.eqs(x.Eqs)
		for _, t := range x.Trans {
			inner.expr(t.Cond)
		}
	}
}
