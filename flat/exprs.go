package flat

import "foliot/api"

// values tells the variables of what an expression gives: of a call, of a tuple that may be more than one.
func (s *scope) values(e api.Expr) []int {
	switch e.Kind {
	case api.ECall:
		return s.call(s.nodes[e.Name], s.row(e.Args))
	case api.ETuple:
		return s.row(e.Args)
	}
	return []int{s.value(e)}
}

// row tells the variables of expressions, each of which gives one value.
func (s *scope) row(l []api.Expr) []int {
	var out []int
	for _, e := range l {
		out = append(out, s.value(e))
	}
	return out
}

// value tells the variable of an expression that gives one value.
func (s *scope) value(e api.Expr) int {
	switch e.Kind {
	case api.EVar:
		return s.vars[e.Name]
	case api.ELast:
		return s.last(e.Name)
	case api.EUn:
		return s.unary(e)
	case api.EBin:
		return s.binary(e)
	case api.EIf:
		return s.op("sel", s.row(e.Args)...)
	case api.ECall:
		return s.values(e)[0]
	case api.EUp:
		return s.up(e.Args[0])
	}
	return s.literal(valueOf(e))
}

func (s *scope) unary(e api.Expr) int {
	switch e.Name {
	case "pre":
		return s.was(e.Args[0])
	case "-":
		return s.op("neg", s.value(e.Args[0]))
	}
	return s.op(e.Name, s.value(e.Args[0]))
}

func (s *scope) binary(e api.Expr) int {
	first := s.value(e.Args[0])
	switch e.Name {
	case "->":
		return s.op("sel", s.begin(), first, s.value(e.Args[1]))
	case "fby":
		return s.op("sel", s.begin(), first, s.was(e.Args[1]))
	}
	return s.op(e.Name, first, s.value(e.Args[1]))
}

// was is what an expression was at the scope's last instant; nothing, when it begins.
func (s *scope) was(e api.Expr) int {
	read, place := s.memory(api.Value{})
	s.keep(place, s.value(e))
	return read
}
