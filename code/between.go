package code

import "foliot/api"

// deriv is the body that tells how states go on.
func (m *maker) deriv() []api.Ins {
	var out []api.Ins
	for k, x := range m.Conts {
		slope := api.Ins{Op: "slope", K: k, Guard: m.slot(x.Guard)}
		for _, s := range x.Slopes {
			slope.Args = append(slope.Args, m.slot(s.Guard), m.slot(s.Var))
		}
		out = append(out, slope)
	}
	return out
}

// cross is the body that tells what crossings ask, and how many lines it has.
func (m *maker) cross() ([]api.Ins, int) {
	var out []api.Ins
	lines := 0
	for k, x := range m.Cross {
		first, guard := lines, m.slot(x.Guard)
		line := func(op int) int { return first + op } // operations are counted anew in each crossing, lines are not
		for i, op := range x.Ops {
			out = append(out, m.operation(op, line(i), guard, line))
		}
		lines = line(len(x.Ops))
		out = append(out, api.Ins{Op: "ask", K: k, Args: []int{lines - 1}, Guard: guard})
	}
	return out, lines
}

// operation is one of a crossing with this guard, told to a line.
func (m *maker) operation(op api.COp, dst, guard int, line func(op int) int) api.Ins {
	x := api.Ins{Op: "l" + op.Op, Dst: dst, Guard: guard}
	switch a := op.Args; op.Op {
	case "var":
		x.Args = turned(m.slot, a...)
	case "cont":
		x.K = a[0]
	case "*":
		x.Args, x.K = turned(line, a[:2]...), a[2]
	case "sel":
		x.Args = append(turned(m.slot, a[0]), turned(line, a[1:]...)...)
	default:
		x.Args = turned(line, a...)
	}
	return x
}
