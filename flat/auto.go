package flat

import "foliot/api"

// automaton is where an automaton goes: rows of guards and values, transition by transition, of which the first whose guard is true counts.
type automaton struct {
	states   map[string]int // the variables that name them
	yes, no  int
	to, anew []int // which state; whether all in it begins
}

// automaton does the states of one, of which one is active. Which one it is stands in a memory, and whether it was gone to anew in another one.
func (s *scope) automaton(q api.Eq) tells {
	state, stateAt := s.memory(ctor(q.States[0].Name))
	fresh, freshAt := s.memory(truth(false))
	a := &automaton{states: map[string]int{}, yes: s.literal(truth(true)), no: s.literal(truth(false))}
	for _, x := range q.States {
		a.states[x.Name] = s.literal(ctor(x.Name))
	}
	out := tells{}
	for _, x := range q.States {
		here := s.op("==", state, a.states[x.Name])
		inner := s.inner(here, s.op("gand", here, fresh))
		inner.eqs(x.Eqs).each(out.put)
		for _, t := range x.Trans {
			inner.transition(t, a)
		}
	}
	s.keep(stateAt, s.op("mrg", append(a.to, state)...))
	s.keep(freshAt, s.op("mrg", append(a.anew, a.no)...))
	return out
}

// transition notes where a state goes, if a condition is true while it is active; then one more instant is asked for.
func (s *scope) transition(t api.Trans, a *automaton) {
	goes := s.op("gand", s.value(t.Cond))
	s.out.Again = append(s.out.Again, goes)
	a.to = append(a.to, goes, a.states[t.To])
	anew := a.yes
	if t.Keep {
		anew = a.no
	}
	a.anew = append(a.anew, goes, anew)
}
