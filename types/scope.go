package types

import "foliot/api"

// typed is what has a type.
type typed struct{ is string }

// scope is what names mean in a program, and in a node of it: of each name the first thing that has it.
type scope struct {
	ctors map[string]typed
	nodes map[string]api.Node
	vars  map[string]typed
}

// put lets a name mean something, if it means nothing yet.
func put[T any](m map[string]T, name string, x T) {
	if _, there := m[name]; !there {
		m[name] = x
	}
}

func newScope(p api.Program) scope {
	s := scope{ctors: map[string]typed{}, nodes: map[string]api.Node{}}
	for _, e := range p.Enums {
		for _, name := range e.Ctors {
			put(s.ctors, name, typed{e.Name})
		}
	}
	for _, n := range p.Nodes {
		put(s.nodes, n.Name, n)
	}
	return s
}

// enter lets the names of variables mean those of a node.
func (s *scope) enter(n api.Node) {
	s.vars = map[string]typed{}
	for _, l := range [][]api.Var{n.In, n.Out, n.Local} {
		for _, v := range l {
			put(s.vars, v.Name, typed{v.Type})
		}
	}
}

func typesOf(l []api.Var) []string {
	var out []string
	for _, v := range l {
		out = append(out, v.Type)
	}
	return out
}
