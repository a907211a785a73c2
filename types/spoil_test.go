package types_test

import (
	"math/rand"
	"slices"
	"strings"

	"foliot/api"
)

// parts are what may be changed in a program.
type parts struct {
	exprs []*api.Expr
	eqs   []*api.Eq
	vars  []*api.Var
}

func partsOf(p *api.Program) *parts {
	out := &parts{}
	for i := range p.Nodes {
		n := &p.Nodes[i]
		for _, l := range [][]api.Var{n.In, n.Out, n.Local} {
			for j := range l {
				out.vars = append(out.vars, &l[j])
				out.addExprs(l[j].Init)
			}
		}
		out.addEqs(n.Eqs)
	}
	return out
}

func (p *parts) addExprs(rows ...[]api.Expr) {
	for _, l := range rows {
		for i := range l {
			p.addExpr(&l[i])
		}
	}
}

func (p *parts) addExpr(e *api.Expr) {
	p.exprs = append(p.exprs, e)
	p.addExprs(e.Args)
}

func (p *parts) addEqs(l []api.Eq) {
	for i := range l {
		q := &l[i]
		p.eqs = append(p.eqs, q)
		p.addExprs(q.Args, q.Init, q.Again)
		for _, block := range q.Blocks {
			p.addEqs(block)
		}
		for _, x := range q.States {
			p.addEqs(x.Eqs)
			for k := range x.Trans {
				p.addExpr(&x.Trans[k].Cond)
			}
		}
	}
}

// spoil makes so many changes in a program.
func spoil(r *rand.Rand, p *api.Program, n int) {
	for range n {
		l := partsOf(p)
		switch r.Intn(6) {
		case 0:
			l.vars[r.Intn(len(l.vars))].Type = []string{"bool", "int", "rat", "t0", "t1"}[r.Intn(5)]
		case 1:
			spoilEq(r, l.eqs[r.Intn(len(l.eqs))])
		default:
			spoilExpr(r, l.exprs[r.Intn(len(l.exprs))], l)
		}
	}
}

func spoilEq(r *rand.Rand, q *api.Eq) {
	switch {
	case q.Kind == api.QDef && len(q.Names) > 1:
		q.Names[0], q.Names[1] = q.Names[1], q.Names[0]
	case q.Kind == api.QDef:
		q.Kind = api.QDer
	case q.Kind == api.QDer && len(q.Again) == 0:
		q.Kind, q.Init = api.QDef, nil
	case q.Kind == api.QDer:
		q.Again[0], q.Again[1] = q.Again[1], q.Again[0]
	}
}

// spoilExpr makes another expression of one: a leaf, something like another one, with another sign, with Args put about, or within one more.
func spoilExpr(r *rand.Rand, e *api.Expr, l *parts) {
	old := *e
	switch r.Intn(5) {
	case 0:
		*e = leaf(r)
	case 1:
		other := *l.exprs[r.Intn(len(l.exprs))]
		if len(other.Args) == 0 || other.Kind == e.Kind {
			e.Kind, e.Name = other.Kind, other.Name
			e.Args = e.Args[:min(len(e.Args), len(other.Args))]
		}
	case 2:
		signs := map[int]string{api.EUn: "- not pre floor rat", api.EBin: "+ - * / div mod < <= > >= == != and or fby ->"}
		if l := strings.Fields(signs[e.Kind]); len(l) > 0 {
			e.Name = l[r.Intn(len(l))]
		}
	case 3:
		if len(e.Args) > 1 {
			e.Args[0], e.Args[1] = e.Args[1], e.Args[0]
		}
	case 4:
		*e = api.Expr{Kind: api.ETuple, Args: []api.Expr{old, leaf(r)}, Pos: r.Int()}
		if r.Intn(2) == 0 {
			*e = api.Expr{Kind: api.EUn, Name: []string{"-", "not", "floor", "rat"}[r.Intn(4)], Args: []api.Expr{old}, Pos: r.Int()}
		}
	}
}

func leaf(r *rand.Rand) api.Expr {
	l := []api.Expr{{Kind: api.EBool, Name: "true"}, {Kind: api.ENum, Name: "1"}, {Kind: api.ENum, Name: "0.5"}, {Kind: api.ECtor, Name: "S0"}, {Kind: api.ECtor, Name: "S2"}, {Kind: api.EVar, Name: "x0"}, {Kind: api.EVar, Name: "x1"}, {Kind: api.ECall, Name: "f0"}}
	e := l[r.Intn(len(l))]
	e.Pos = r.Int()
	return e
}

// exprsOf lists all expressions of a node's equations, and all that is part of them.
func exprsOf(n api.Node) []api.Expr {
	l := &parts{}
	l.addEqs(n.Eqs)
	var out []api.Expr
	for _, e := range l.exprs {
		out = append(out, *e)
	}
	return slices.Clip(out)
}
