package inits_test

import (
	"math/rand"

	"foliot/api"
)

// exprsIn lists all expressions of equations, and all that is part of them.
func exprsIn(l []api.Eq) []*api.Expr {
	var out []*api.Expr
	var add func(l []api.Expr)
	add = func(l []api.Expr) {
		for i := range l {
			out = append(out, &l[i])
			add(l[i].Args)
		}
	}
	for i := range l {
		add(l[i].Args)
		add(l[i].Init)
		add(l[i].Again)
		for _, block := range l[i].Blocks {
			out = append(out, exprsIn(block)...)
		}
		for _, s := range l[i].States {
			out = append(out, exprsIn(s.Eqs)...)
			for k := range s.Trans {
				out = append(out, &s.Trans[k].Cond)
				add(s.Trans[k].Cond.Args)
			}
		}
	}
	return out
}

// ofSign lists those expressions that have one of these heads.
func ofSign(l []*api.Expr, heads ...string) []*api.Expr {
	var out []*api.Expr
	for _, e := range l {
		for _, word := range heads {
			if head(*e) == word {
				out = append(out, e)
			}
		}
	}
	return out
}

// spoil changes something in a program that its first instant hangs on: one of two parts that tell it is gone, or in the other's stead; something is no more what it is, but what it was.
func spoil(r *rand.Rand, p *api.Program) {
	n := &p.Nodes[r.Intn(len(p.Nodes))]
	all := exprsIn(n.Eqs)
	two, calls := ofSign(all, "fby", "->"), ofSign(all, "call")
	switch {
	case r.Intn(10) == 0:
		n.Hybrid = !n.Hybrid
	case r.Intn(3) > 0 && len(two) > 0:
		e := two[r.Intn(len(two))]
		switch r.Intn(3) {
		case 0:
			*e = e.Args[1]
		case 1:
			e.Args[0], e.Args[1] = e.Args[1], e.Args[0]
		case 2:
			e.Name = "fby"
		}
	case r.Intn(2) == 0 && len(calls) > 0:
		e := calls[r.Intn(len(calls))]
		if len(e.Args) > 0 {
			was(r, &e.Args[r.Intn(len(e.Args))])
		}
	case len(all) > 0:
		was(r, all[r.Intn(len(all))])
	}
}

// was puts an expression into a pre.
func was(r *rand.Rand, e *api.Expr) {
	*e = api.Expr{Kind: api.EUn, Name: "pre", Args: []api.Expr{*e}, Pos: r.Int()}
}
