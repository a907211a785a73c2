package flat

import "foliot/api"

// scale weighs a node and all that it calls. Where that is too much, it goes into no more calls: a few nodes that call one another may come to more than any number holds.
type scale struct {
	nodes map[string]api.Node
	left  int // what may yet be put on it
}

// isHeavy tells whether a node's weight is too great.
func isHeavy(n api.Node, nodes map[string]api.Node) bool {
	s := &scale{nodes: nodes, left: api.MaxFlat}
	s.node(n)
	return s.full()
}

func (s *scale) full() bool { return s.left < 0 }

func (s *scale) node(n api.Node) {
	s.left -= len(n.In) + len(n.Out) + len(n.Local)
	s.eqs(n.Eqs)
}

func (s *scale) eqs(l []api.Eq) {
	for _, q := range l {
		s.left--
		s.exprs(q.Args)
		s.exprs(q.Init)
		s.exprs(q.Again)
		for _, block := range q.Blocks {
			s.eqs(block)
		}
		s.states(q.States)
	}
}

func (s *scale) states(l []api.State) {
	for _, x := range l {
		s.left--
		s.eqs(x.Eqs)
		for _, t := range x.Trans {
			s.left--
			s.exprs([]api.Expr{t.Cond})
		}
	}
}

func (s *scale) exprs(l []api.Expr) {
	for _, e := range l {
		if s.full() {
			return
		}
		s.left--
		s.exprs(e.Args)
		if e.Kind == api.ECall {
			s.node(s.nodes[e.Name])
		}
	}
}
