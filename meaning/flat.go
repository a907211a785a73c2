package meaning

import "foliot/api"

// Flat tells what a good flat program does by a right script (12.2, 12.4), up to so many instants: if more come, those, and an End of 0. A flat program in which something hangs on itself does nothing: false.
func Flat(f api.Flat, s api.Script, most int) (api.Trace, bool) {
	m := &flat{Flat: f, eqs: make([]api.FEq, len(f.Names))}
	for _, q := range f.Eqs {
		m.eqs[q.Var] = q
	}
	for _, x := range f.Mems {
		m.mems = append(m.mems, x.Init)
	}
	for _, x := range f.Conts {
		m.conts = append(m.conts, x.Init)
	}
	t := run[int](m, f.Ins, s, most)
	if m.circle {
		return api.Trace{}, false
	}
	return t, true
}

// flat is a flat program at an instant.
type flat struct {
	api.Flat
	*faults
	eqs         []api.FEq // by their variables
	mems, conts []api.Value
	rates       []rate
	in          []api.Rat
	passes      map[int]struct{}
	values      []api.Value
	done        []int // of each variable: was it asked for, is it told
	circle      bool
}

func (m *flat) instant(in []api.Rat, passes map[int]struct{}, f *faults) told[int] {
	m.faults, m.in, m.passes = f, in, passes
	m.values, m.done = make([]api.Value, len(m.eqs)), make([]int, len(m.eqs))
	for v := range m.eqs {
		m.variable(v)
	}
	m.keep()
	t := told[int]{lines: map[int]line{}}
	for _, v := range m.Outs {
		t.outs = append(t.outs, m.values[v])
	}
	t.again = m.any(m.Again)
	for k, c := range m.Cross {
		if m.guarded(c.Guard) {
			t.lines[k] = m.cross(c)
		}
	}
	return t
}

// variable is what one is; all that it needs is asked for ahead, whether it is done or not.
func (m *flat) variable(v int) api.Value {
	switch m.done[v] {
	case asked:
		m.circle = true
	case unasked:
		m.done[v] = asked
		q := m.eqs[v]
		for _, need := range needs(m.Flat, q) {
			m.variable(need)
		}
		if m.guarded(q.Guard) {
			m.values[v] = m.equation(q)
		}
		m.done[v] = yes
	}
	return m.values[v]
}

func needs(f api.Flat, q api.FEq) []int {
	var out []int
	out = append(out, q.Args...)
	if q.Guard >= 0 {
		out = append(out, q.Guard)
	}
	switch q.Op {
	case "mem":
		out = append(out, f.Mems[q.K].Resets...)
	case "cont":
		out = append(out, f.Conts[q.K].Resets...)
	}
	return out
}

func (m *flat) guarded(v int) bool { return v < 0 || isTrue(m.values[v]) }

func (m *flat) any(l []int) bool {
	for _, v := range l {
		if isTrue(m.values[v]) {
			return true
		}
	}
	return false
}

func (m *flat) equation(q api.FEq) api.Value {
	switch q.Op {
	case "lit":
		if q.Lit.Kind == api.VNum {
			return m.number(q.Lit.Num)
		}
		return q.Lit
	case "in":
		return m.number(m.in[q.K])
	case "flag":
		_, is := m.passes[q.K]
		return truth(is)
	case "mem":
		return m.kept(m.mems[q.K], m.Mems[q.K].Init, m.Mems[q.K].Resets)
	case "cont":
		return m.kept(m.conts[q.K], m.Conts[q.K].Init, m.Conts[q.K].Resets)
	}
	var l []api.Value
	for _, v := range q.Args {
		l = append(l, m.values[v])
	}
	return m.op(q.Op, l...)
}

func (m *flat) kept(now, init api.Value, resets []int) api.Value {
	if m.any(resets) {
		return init
	}
	return now
}

// keep is what is done behind the equations.
func (m *flat) keep() {
	for k, x := range m.Mems {
		if m.guarded(x.Guard) {
			m.mems[k] = m.values[x.Next]
		} else if m.any(x.Resets) {
			m.mems[k] = x.Init
		}
	}
	m.rates = make([]rate, len(m.Conts))
	for k, x := range m.Conts {
		if m.guarded(x.Guard) {
			m.conts[k], m.rates[k] = m.values[x.Var], rate{true, m.slope(x.Slopes)}
		} else if m.any(x.Resets) {
			m.conts[k] = x.Init
		}
	}
}

func (m *flat) slope(l []api.Slope) api.Value {
	for _, s := range l {
		if m.guarded(s.Guard) {
			return m.values[s.Var]
		}
	}
	return nought()
}

func (m *flat) cross(c api.Cross) line {
	var l []line
	for _, op := range c.Ops {
		a := op.Args
		switch op.Op {
		case "var":
			l = append(l, line{m.values[a[0]], nought()})
		case "cont":
			l = append(l, m.rates[a[0]].of(m.conts[a[0]]))
		case "neg":
			l = append(l, m.even("-", l[a[0]]))
		case "sel":
			l = append(l, m.choice(m.values[a[0]], l[a[1]], l[a[2]]))
		case "*":
			l = append(l, m.product(l[a[0]], l[a[1]], a[2] == 1))
		default:
			l = append(l, m.even(op.Op, l[a[0]], l[a[1]]))
		}
	}
	return l[len(l)-1]
}

func (m *flat) move(dt api.Rat, bits int) bool {
	l, ok := moved(m.conts, m.rates, dt, bits)
	if ok {
		m.conts = l
	}
	return ok
}
