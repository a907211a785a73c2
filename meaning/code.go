package meaning

import (
	"strings"

	"foliot/api"
)

// Code tells what the object code of a flat program with these inputs does by a right script (12.2, 17.2 to 17.5), up to so many instants: if more come, those, and an End of 0. The code is one that may run (16).
func Code(c api.Code, ins []string, s api.Script, most int) api.Trace {
	m := &code{Code: c, slots: make([]api.Value, c.Slots)}
	m.mems = append(m.mems, c.Mems...)
	m.conts = append(m.conts, c.Conts...)
	return run[int](m, ins, s, most)
}

// code is object code that runs.
type code struct {
	api.Code
	*faults
	slots, mems, conts []api.Value
	rates              []rate
	lines              []line
	told               told[int]
}

func (m *code) instant(in []api.Rat, passes map[int]struct{}, f *faults) told[int] {
	m.faults = f
	m.told = told[int]{lines: map[int]line{}}
	for range m.Outs {
		m.told.outs = append(m.told.outs, api.Value{})
	}
	for _, x := range m.Step {
		m.step(x, in, passes)
	}
	m.rates = make([]rate, len(m.conts))
	for _, x := range m.Deriv {
		if m.on(x.Guard) {
			m.rates[x.K] = rate{true, m.slope(x.Args)}
		}
	}
	m.lines = make([]line, m.Lines)
	for _, x := range m.Cross {
		m.cross(x)
	}
	return m.told
}

func (m *code) on(guard int) bool { return guard < 0 || isTrue(m.slots[guard]) }

func (m *code) anew(resets []int) bool {
	for _, s := range resets {
		if isTrue(m.slots[s]) {
			return true
		}
	}
	return false
}

func (m *code) step(x api.Ins, in []api.Rat, passes map[int]struct{}) {
	switch x.Op {
	case "keep":
		m.keep(m.mems, m.Mems, x)
	case "state":
		m.keep(m.conts, m.Conts, x)
	case "out":
		if m.on(x.Guard) {
			m.told.outs[x.K] = m.slots[x.Args[0]]
		}
	case "again":
		m.told.again = m.told.again || m.on(x.Guard) && isTrue(m.slots[x.Args[0]])
	default:
		m.slots[x.Dst] = m.equation(x, in, passes)
	}
}

func (m *code) keep(kept, inits []api.Value, x api.Ins) {
	switch {
	case m.on(x.Guard):
		kept[x.K] = m.slots[x.Args[0]]
	case m.anew(x.Resets):
		kept[x.K] = inits[x.K]
	}
}

func (m *code) equation(x api.Ins, in []api.Rat, passes map[int]struct{}) api.Value {
	if !m.on(x.Guard) {
		return api.Value{}
	}
	switch x.Op {
	case "lit":
		if x.Lit.Kind == api.VNum {
			return m.number(x.Lit.Num)
		}
		return x.Lit
	case "in":
		return m.number(in[x.K])
	case "flag":
		_, is := passes[x.K]
		return truth(is)
	case "mem":
		return m.read(m.mems, m.Mems, x)
	case "cont":
		return m.read(m.conts, m.Conts, x)
	}
	var l []api.Value
	for _, s := range x.Args {
		l = append(l, m.slots[s])
	}
	return m.op(x.Op, l...)
}

func (m *code) read(kept, inits []api.Value, x api.Ins) api.Value {
	if m.anew(x.Resets) {
		return inits[x.K]
	}
	return kept[x.K]
}

func (m *code) slope(l []int) api.Value {
	for len(l) > 0 {
		if m.on(l[0]) {
			return m.slots[l[1]]
		}
		l = l[2:]
	}
	return nought()
}

func (m *code) cross(x api.Ins) {
	l := m.lines
	switch {
	case x.Op == "ask" && m.on(x.Guard):
		m.told.lines[x.K] = l[x.Args[0]]
	case x.Op == "ask":
	case !m.on(x.Guard):
		l[x.Dst] = line{}
	case x.Op == "lvar":
		l[x.Dst] = line{m.slots[x.Args[0]], nought()}
	case x.Op == "lcont":
		l[x.Dst] = m.rates[x.K].of(m.conts[x.K])
	case x.Op == "lneg":
		l[x.Dst] = m.even("-", l[x.Args[0]])
	case x.Op == "lsel":
		l[x.Dst] = m.choice(m.slots[x.Args[0]], l[x.Args[1]], l[x.Args[2]])
	case x.Op == "l*":
		l[x.Dst] = m.product(l[x.Args[0]], l[x.Args[1]], x.K == 1)
	default:
		l[x.Dst] = m.even(strings.TrimPrefix(x.Op, "l"), l[x.Args[0]], l[x.Args[1]])
	}
}

func (m *code) move(dt api.Rat, bits int) bool {
	l, ok := moved(m.conts, m.rates, dt, bits)
	if ok {
		m.conts = l
	}
	return ok
}
