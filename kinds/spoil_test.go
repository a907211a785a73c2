package kinds_test

import (
	"math/rand"

	"foliot/api"
	"foliot/names"
	"foliot/types"
)

func dice(seed int64) *rand.Rand { return rand.New(rand.NewSource(seed)) }

// exprsIn lists all expressions of equations, and all that is part of them.
func exprsIn(l []api.Eq) []*api.Expr {
	var out []*api.Expr
	var add func(l []api.Expr)
	add = func(l []api.Expr) {
		for i := range l {
			out = append(out, &l[i])
			add(l[i].Args)
		}
	}
	for i := range l {
		add(l[i].Args)
		add(l[i].Init)
		add(l[i].Again)
		for _, block := range l[i].Blocks {
			out = append(out, exprsIn(block)...)
		}
		for _, s := range l[i].States {
			out = append(out, exprsIn(s.Eqs)...)
			for k := range s.Trans {
				out = append(out, &s.Trans[k].Cond)
				add(s.Trans[k].Cond.Args)
			}
		}
	}
	return out
}

// ofType lists those expressions that are of a type.
func ofType(p api.Program, n api.Node, l []*api.Expr, wanted string) []*api.Expr {
	var out []*api.Expr
	for _, e := range l {
		if types, err, _ := types.Of(p, n, *e); err == api.OK && len(types) == 1 && types[0] == wanted {
			out = append(out, e)
		}
	}
	return out
}

// spoil changes something in a program that kinds hang on: whether a node is hybrid, a number for a der or for what does not stay, a truth for an up.
func spoil(r *rand.Rand, p *api.Program) {
	n := &p.Nodes[r.Intn(len(p.Nodes))]
	all := exprsIn(n.Eqs)
	numbers, truths := ofType(*p, *n, all, "rat"), ofType(*p, *n, all, "bool")
	ders := names.Ders(*n)
	switch {
	case r.Intn(8) == 0 || len(numbers) == 0:
		n.Hybrid = !n.Hybrid
	case r.Intn(3) == 0 && len(ders) > 0:
		*numbers[r.Intn(len(numbers))] = api.Expr{Kind: api.EVar, Name: ders[r.Intn(len(ders))], Pos: r.Int()}
	case r.Intn(3) == 0 && len(truths) > 0:
		*truths[r.Intn(len(truths))] = api.Expr{Kind: api.EUp, Args: []api.Expr{copied(*numbers[r.Intn(len(numbers))])}, Pos: r.Int()}
	default:
		loosen(r, numbers[r.Intn(len(numbers))])
	}
}

// copied makes an expression anew.
func copied(e api.Expr) api.Expr {
	var args []api.Expr
	for _, a := range e.Args {
		args = append(args, copied(a))
	}
	e.Args = args
	return e
}

// loosen puts a number into something of the same type, which may be less even than it is.
func loosen(r *rand.Rand, e *api.Expr) {
	old := *e
	*e = api.Expr{Kind: api.EBin, Name: []string{"*", "/", "->", "fby", "+", "pre", "-"}[r.Intn(7)], Args: []api.Expr{old, copied(old)}, Pos: r.Int()}
	if e.Name == "pre" || e.Name == "-" {
		e.Kind, e.Args = api.EUn, e.Args[:1]
	}
}
