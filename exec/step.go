package exec

import (
	"foliot/api"
	"foliot/ratio"
)

// given is what an instant is handed.
type given struct {
	in    []api.Rat
	flags []bool
}

// input is the one of a place, as it is told; 0, if there is none.
func (g given) input(k int) api.Rat {
	if k >= len(g.in) {
		return ratio.Of(0)
	}
	return ratio.Norm(g.in[k])
}

// flag is the one of a place; false, if there is none.
func (g given) flag(k int) bool { return k < len(g.flags) && g.flags[k] }

// isOn tells whether what has this Guard is on.
func (m *Machine) isOn(guard int) bool { return guard < 0 || isTrue(m.slots[guard]) }

// begins tells whether one of some Resets is true.
func (m *Machine) begins(resets []int) bool {
	for _, s := range resets {
		if isTrue(m.slots[s]) {
			return true
		}
	}
	return false
}

// step does an instruction of Step.
func (m *Machine) step(x api.Ins, g given) {
	switch x.Op {
	case "keep":
		m.mems[x.K] = m.kept(x, m.mems[x.K], m.code.Mems[x.K])
	case "state":
		m.conts[x.K] = m.kept(x, m.conts[x.K], m.code.Conts[x.K])
	case "out":
		if m.isOn(x.Guard) {
			m.outs[x.K] = m.slots[x.Args[0]]
		}
	case "again":
		m.again = m.again || m.isOn(x.Guard) && isTrue(m.slots[x.Args[0]])
	default:
		m.slots[x.Dst] = m.equation(x, g)
	}
}

// kept is what a memory, or a state, becomes that is this now, and was that at first.
func (m *Machine) kept(x api.Ins, now, first api.Value) api.Value {
	if m.isOn(x.Guard) {
		return m.slots[x.Args[0]]
	}
	return m.read(x, now, first)
}

// read is what a memory, or a state, tells that is this now, and was that at first.
func (m *Machine) read(x api.Ins, now, first api.Value) api.Value {
	if m.begins(x.Resets) {
		return first
	}
	return now
}

// equation is what an equation's instruction tells.
func (m *Machine) equation(x api.Ins, g given) api.Value {
	if !m.isOn(x.Guard) {
		return api.Value{}
	}
	switch x.Op {
	case "lit":
		if x.Lit.Kind == api.VNum {
			return m.number(x.Lit.Num)
		}
		return x.Lit
	case "in":
		return m.number(g.input(x.K))
	case "flag":
		return truth(g.flag(x.K))
	case "mem":
		return m.read(x, m.mems[x.K], m.code.Mems[x.K])
	case "cont":
		return m.read(x, m.conts[x.K], m.code.Conts[x.K])
	}
	m.args = m.args[:0]
	for _, s := range x.Args {
		m.args = append(m.args, m.slots[s])
	}
	return m.op(x.Op, m.args...)
}
