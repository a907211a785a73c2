package plan

import "foliot/api"

// life is where in an order a variable is told, and where it is needed last.
type life struct{ first, last int }

// livesOf tells the lives of variables in an order that has each one once.
func livesOf(f api.Flat, order []int, needs [][]int) []life {
	out := make([]life, len(order))
	for i, v := range order {
		out[v] = life{i, i}
	}
	for v, l := range needs {
		for _, u := range l {
			out[u].last = max(out[u].last, out[v].first)
		}
	}
	behindAll := len(order)
	for _, v := range kept(f) {
		if v >= 0 { // a guard that is none is below
			out[v].last = behindAll
		}
	}
	return out
}

// kept tells what is asked for behind all equations: variables, and guards that are none.
func kept(f api.Flat) []int {
	var out []int
	out = append(out, f.Outs...)
	out = append(out, f.Again...)
	for _, m := range f.Mems {
		out = append(out, m.Next, m.Guard)
		out = append(out, m.Resets...)
	}
	for _, c := range f.Conts {
		out = append(out, c.Var, c.Guard)
		out = append(out, c.Resets...)
		for _, s := range c.Slopes {
			out = append(out, s.Guard, s.Var)
		}
	}
	for _, c := range f.Cross {
		out = append(out, c.Guard)
		for _, op := range c.Ops {
			if op.Op == "var" || op.Op == "sel" {
				out = append(out, op.Args[0])
			}
		}
	}
	return out
}
