package code

import "foliot/api"

// step is an instant's body: what variables are, in this order, and then what that leads to.
func (m *maker) step(order []int) []api.Ins {
	return append(m.equations(order), m.ends()...)
}

func (m *maker) equations(order []int) []api.Ins {
	at := make([]int, len(order)) // of each variable the place of its equation
	for i, q := range m.Eqs {
		at[q.Var] = i
	}
	var out []api.Ins
	for _, v := range order {
		out = append(out, m.equation(m.Eqs[at[v]]))
	}
	return out
}

func (m *maker) equation(q api.FEq) api.Ins {
	x := api.Ins{Op: q.Op, Dst: m.slot(q.Var), Args: turned(m.slot, q.Args...), Guard: m.slot(q.Guard)}
	switch q.Op {
	case "lit":
		x.Lit = copied(q.Lit)
	case "in", "flag":
		x.K = q.K
	case "mem":
		x.K, x.Resets = q.K, turned(m.slot, m.Mems[q.K].Resets...)
	case "cont":
		x.K, x.Resets = q.K, turned(m.slot, m.Conts[q.K].Resets...)
	}
	return x
}

// ends is what is kept and told behind all equations.
func (m *maker) ends() []api.Ins {
	var out []api.Ins
	for k, x := range m.Mems {
		out = append(out, api.Ins{Op: "keep", K: k, Args: turned(m.slot, x.Next), Guard: m.slot(x.Guard), Resets: turned(m.slot, x.Resets...)})
	}
	for k, x := range m.Conts {
		out = append(out, api.Ins{Op: "state", K: k, Args: turned(m.slot, x.Var), Guard: m.slot(x.Guard), Resets: turned(m.slot, x.Resets...)})
	}
	for k, v := range m.Outs {
		out = append(out, api.Ins{Op: "out", K: k, Args: turned(m.slot, v), Guard: -1})
	}
	for _, v := range m.Again {
		out = append(out, api.Ins{Op: "again", Args: turned(m.slot, v), Guard: -1})
	}
	return out
}
