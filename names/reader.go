package names

import "foliot/api"

// reader goes through equations in the order in which they are read; its fields say what is done meanwhile.
type reader struct {
	atEq   func(api.Eq)                      // ahead of all that stands in it
	atExpr func(api.Expr)                    // ahead of its Args
	atAuto func([]api.State) func(api.Trans) // ahead of an automaton's states; what it gives is done behind each condition of theirs
}

// idle is a reader that does nothing.
func idle() reader {
	return reader{
		atEq:   func(api.Eq) {},
		atExpr: func(api.Expr) {},
		atAuto: func([]api.State) func(api.Trans) { return func(api.Trans) {} },
	}
}

func (r reader) eqs(l []api.Eq) {
	for _, q := range l {
		r.eq(q)
	}
}

func (r reader) eq(q api.Eq) {
	r.atEq(q)
	switch q.Kind {
	case api.QDef:
		r.exprs(q.Args)
	case api.QDer:
		r.exprs(q.Args)
		r.exprs(q.Init)
		r.exprs(q.Again)
	case api.QReset:
		r.blocks(q.Blocks)
		r.exprs(q.Args)
	case api.QPresent:
		r.exprs(q.Args)
		r.blocks(q.Blocks)
	case api.QAuto:
		r.states(q.States)
	}
}

func (r reader) blocks(l [][]api.Eq) {
	for _, block := range l {
		r.eqs(block)
	}
}

func (r reader) states(l []api.State) {
	atTrans := r.atAuto(l)
	for _, s := range l {
		r.eqs(s.Eqs)
		for _, t := range s.Trans {
			r.expr(t.Cond)
			atTrans(t)
		}
	}
}

func (r reader) exprs(l []api.Expr) {
	for _, e := range l {
		r.expr(e)
	}
}

func (r reader) expr(e api.Expr) {
	r.atExpr(e)
	r.exprs(e.Args)
}
