package sample

import "foliot/api"

// telling makes equations that together tell each of some names once; so deep may blocks stand in one another.
func (m *maker) telling(l []string, within bool, deep int) []api.Eq {
	l = append([]string(nil), l...)
	shuffle(m, l)
	var out []api.Eq
	for len(l) > 0 {
		n := 1 + m.dice(min(3, len(l)))
		out = append(out, m.some(l[:n], within, deep)...)
		l = l[n:]
	}
	if deep > 0 && m.left > 0 && m.chance(6) {
		out = append(out, m.block(nil, within, deep))
	}
	return out
}

// some makes equations that tell these names: a block, or one equation for each der, and one for all others.
func (m *maker) some(l []string, within bool, deep int) []api.Eq {
	if deep > 0 && m.left > 0 && m.chance(2) {
		return []api.Eq{m.block(l, within, deep)}
	}
	var out []api.Eq
	var others []string
	for _, name := range l {
		if m.own[name].der {
			out = append(out, m.der(m.own[name], within))
		} else {
			others = append(others, name)
		}
	}
	if len(others) > 0 {
		out = append(out, m.definition(others))
	}
	return out
}

func (m *maker) definition(l []string) api.Eq {
	m.left--
	q := api.Eq{Kind: api.QDef, Names: append([]string(nil), l...), Pos: m.place()}
	var types []string
	for _, name := range l {
		types = append(types, m.own[name].Type)
	}
	q.Args = []api.Expr{m.ahead(l, func() api.Expr {
		switch {
		case m.chance(2):
			return m.call(4, types...)
		case len(l) == 1:
			return m.expr(types[0], 4)
		}
		return m.sign(api.ETuple, 4, "", types...)
	})}
	return q
}

func (m *maker) der(v ownVar, within bool) api.Eq {
	m.left--
	q := api.Eq{Kind: api.QDer, Names: []string{v.Name}, Args: []api.Expr{m.slope()}, Pos: m.place()}
	if !within && !v.begins() || m.chance(2) {
		q.Init = []api.Expr{m.aheadOf("rat", v.Name)}
	}
	if m.chance(2) {
		q.Again = []api.Expr{m.aheadOf("rat", v.Name), m.aheadOf("bool", v.Name)}
	}
	return q
}

// aheadOf makes an expression of this type on which all of these may hang.
func (m *maker) aheadOf(t string, l ...string) api.Expr {
	return m.ahead(l, func() api.Expr { return m.expr(t, 3) })
}

// block makes a block, or a choice of blocks, that tells these names. A der without a beginning can't be chosen.
func (m *maker) block(l []string, within bool, deep int) api.Eq {
	m.left--
	kind := one(m, api.QReset, api.QPresent, api.QAuto)
	for _, name := range l {
		if m.own[name].der && !m.own[name].begins() {
			kind = api.QReset
		}
	}
	q := api.Eq{Kind: kind, Pos: m.place()}
	switch kind {
	case api.QReset:
		q.Blocks = [][]api.Eq{m.telling(l, within, deep-1)}
		q.Args = []api.Expr{m.aheadOf("bool", l...)}
	case api.QPresent:
		q.Args = []api.Expr{m.aheadOf("bool", l...)}
		for _, part := range m.shared(l, 2) {
			q.Blocks = append(q.Blocks, m.telling(part, true, deep-1))
		}
	case api.QAuto:
		q.States = m.states(l, deep)
	}
	return q
}

func (m *maker) states(l []string, deep int) []api.State {
	var out []api.State
	for i, part := range m.shared(l, 1+m.dice(3)) {
		out = append(out, api.State{Name: numbered("S", i), Eqs: m.telling(part, true, deep-1), Pos: m.place()})
	}
	for i := range out {
		for range m.dice(3) {
			out[i].Trans = append(out[i].Trans, api.Trans{Cond: m.expr("bool", 3), To: one(m, out...).Name, Keep: m.chance(2), Pos: m.place()})
		}
	}
	return out
}

// shared gives names to some blocks: those without a beginning to all of them, others to one at least.
func (m *maker) shared(l []string, n int) [][]string {
	out := make([][]string, n)
	for _, name := range l {
		must := m.dice(n)
		for i := range out {
			if i == must || !m.own[name].begins() || m.chance(2) {
				out[i] = append(out[i], name)
			}
		}
	}
	return out
}
