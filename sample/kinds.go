package sample

import "foliot/api"

// within makes something in which only this may stand.
func (m *maker) within(now may, make func() api.Expr) api.Expr {
	old := m.may
	m.may = now
	e := make()
	m.may = old
	return e
}

// staying makes an expression that stays as it is between instants.
func (m *maker) staying(t string, deep int) api.Expr {
	return m.within(may{rank: m.may.rank}, func() api.Expr { return m.expr(t, deep) })
}

// slope makes what a der goes on by; where runs are asked for, often something that is not 0.
func (m *maker) slope() api.Expr {
	if m.causal && m.chance(2) {
		e := api.Expr{Kind: api.ENum, Name: one(m, "1", "2", "0.5"), Pos: m.place()}
		if m.chance(3) {
			e = api.Expr{Kind: api.EUn, Name: "-", Args: []api.Expr{e}, Pos: m.place()}
		}
		return e
	}
	now := m.may
	now.ders, now.rank = !m.kinded, anyRank
	return m.within(now, func() api.Expr { return m.expr("rat", 3) })
}

// up makes an up, or, where none may stand, a truth without Args.
func (m *maker) up(deep int) api.Expr {
	switch {
	case !m.kinded:
		return m.sign(api.EUp, deep, "", "rat")
	case !m.may.hybrid || !m.may.loud:
		return m.leaf("bool")
	}
	e := api.Expr{Kind: api.EUp, Pos: m.place()}
	e.Args = []api.Expr{m.free(func() api.Expr { return m.asked(deep - 1) })}
	return e
}

// asked makes what an up asks; where runs are asked for, often how a der stands to something.
func (m *maker) asked(deep int) api.Expr {
	var l []api.Expr
	for _, v := range m.vars {
		if m.own[v.Name].der {
			l = append(l, api.Expr{Kind: api.EVar, Name: v.Name, Pos: m.place()})
		}
	}
	if len(l) == 0 || !m.causal || !m.may.ders || m.chance(3) {
		return m.even(deep)
	}
	e := api.Expr{Kind: api.EBin, Name: "-", Args: []api.Expr{one(m, l...), m.literal("rat")}, Pos: m.place()}
	if m.chance(3) {
		shuffle(m, e.Args)
	}
	return e
}

// even makes a rat that stays between instants, or goes on evenly.
func (m *maker) even(deep int) api.Expr {
	m.left--
	if deep <= 1 || m.left <= 0 || m.chance(3) {
		return m.leaf("rat")
	}
	e := api.Expr{Kind: api.EBin, Pos: m.place()}
	switch m.dice(5) {
	case 0:
		e.Kind, e.Name = api.EUn, "-"
		e.Args = []api.Expr{m.even(deep - 1)}
	case 1:
		e.Name = one(m, "+", "-")
		e.Args = []api.Expr{m.even(deep - 1), m.even(deep - 1)}
	case 2:
		e.Name = "*"
		e.Args = []api.Expr{m.even(deep - 1), m.staying("rat", deep-1)}
		shuffle(m, e.Args)
	case 3:
		e.Name = "/"
		e.Args = []api.Expr{m.even(deep - 1), m.divisor("rat", func() api.Expr { return m.staying("rat", deep-1) })}
	case 4:
		e.Kind = api.EIf
		e.Args = []api.Expr{m.staying("bool", deep-1), m.even(deep - 1), m.even(deep - 1)}
	}
	return e
}
