package sample

import "foliot/api"

// Code makes object code that may run (layer 16), of no more than so many instructions a body: of all kinds, in any order that may be, and of such as no flat program comes to, too.
func Code(dice func(n int) int, size int) api.Code {
	m := &codeMaker{maker: newMaker(dice, 0)}
	for _, n := range []*int{&m.Ins, &m.Outs, &m.Slots, &m.Crosses, &m.Lines} {
		*n = dice(6)
	}
	for range dice(4) {
		m.Mems = append(m.Mems, m.value())
	}
	for range dice(4) {
		m.Conts = append(m.Conts, m.value())
	}
	for range size {
		m.step()
	}
	for range size {
		if m.chance(3) {
			m.deriv()
		}
	}
	for range size {
		m.cross()
	}
	return m.Code
}

// codeMaker is what is made of object code.
type codeMaker struct {
	*maker
	api.Code
	slots, lines []int // that were written; one may stand twice
}

// step puts an instruction behind Step.
func (m *codeMaker) step() {
	x := m.blank()
	switch {
	case m.Slots == 0:
		return
	case len(m.slots) > 0 && m.chance(3):
		m.placed(&x, "again", "keep", "state", "out")
		x.Args = m.picked(m.slots, 1, 1)
	case len(m.slots) > 0 && m.chance(2):
		x.Op, x.Args = m.operation(m.slots)
	default:
		m.placed(&x, "lit", "in", "mem", "cont", "flag")
	}
	switch x.Op {
	case "mem", "cont", "keep", "state":
		x.Resets = m.written(3)
	}
	switch x.Op {
	case "keep", "state", "out", "again":
	default:
		x.Dst = m.dice(m.Slots)
		m.slots = append(m.slots, x.Dst)
	}
	m.Step = append(m.Step, x)
}

// deriv puts an instruction behind Deriv, if there are states.
func (m *codeMaker) deriv() {
	if len(m.Conts) == 0 {
		return
	}
	x := m.blank()
	m.placed(&x, "slope")
	for _, s := range m.written(3) {
		x.Args = append(x.Args, m.guard(m.slots), s)
	}
	m.Deriv = append(m.Deriv, x)
}

// cross puts an instruction behind Cross, if one may stand there.
func (m *codeMaker) cross() {
	x := m.blank()
	switch {
	case m.Lines == 0:
		return
	case len(m.lines) > 0 && m.Crosses > 0 && m.chance(4):
		m.placed(&x, "ask")
		x.Args = m.picked(m.lines, 1, 1)
	case len(m.lines) > 0 && m.chance(4):
		x.Op, x.Args = "lneg", m.picked(m.lines, 1, 1)
	case len(m.lines) > 0 && len(m.slots) > 0 && m.chance(4):
		x.Op, x.Args = "lsel", append(m.picked(m.slots, 1, 1), m.picked(m.lines, 2, 2)...)
	case len(m.lines) > 0 && m.chance(2):
		m.placed(&x, one(m.maker, "l+", "l-", "l/", "l*"))
		x.Args = m.picked(m.lines, 2, 2)
	case len(m.slots) > 0 && m.chance(2):
		x.Op, x.Args = "lvar", m.picked(m.slots, 1, 1)
	case len(m.Conts) > 0:
		m.placed(&x, "lcont")
	default:
		return
	}
	if x.Op != "ask" {
		x.Dst = m.dice(m.Lines)
		m.lines = append(m.lines, x.Dst)
	}
	m.Cross = append(m.Cross, x)
}

// blank is an instruction without an Op; what its Op will not need may be anything.
func (m *codeMaker) blank() api.Ins {
	return api.Ins{Dst: m.dice(9) - 4, K: m.dice(9) - 4, Lit: m.value(), Guard: m.guard(m.slots)}
}

// written are slots that were written, no more than so many; there may be none.
func (m *codeMaker) written(most int) []int {
	if len(m.slots) == 0 {
		return nil
	}
	return m.picked(m.slots, 0, most)
}

// placed gives an instruction one of these Ops, and its K, if there is a place for it; else the first one, which needs none or has one.
func (m *codeMaker) placed(x *api.Ins, first string, ops ...string) {
	x.Op = one(m.maker, append(ops, first)...)
	if n, needed := m.howMany(x.Op); needed && n == 0 {
		x.Op = first
	}
	if n, needed := m.howMany(x.Op); needed {
		x.K = m.dice(n)
	}
}

// howMany tells how many places there are of which an Op needs one; false, if it needs none.
func (m *codeMaker) howMany(op string) (int, bool) {
	switch op {
	case "in":
		return m.Ins, true
	case "out":
		return m.Outs, true
	case "mem", "keep":
		return len(m.Mems), true
	case "cont", "state", "slope", "lcont":
		return len(m.Conts), true
	case "flag", "ask":
		return m.Crosses, true
	case "l*":
		return 2, true
	}
	return 0, false
}
