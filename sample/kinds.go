package sample

import "foliot/api"

// within makes something in which only this may stand.
func (m *maker) within(now may, make func() api.Expr) api.Expr {
	old := m.may
	m.may = now
	e := make()
	m.may = old
	return e
}

// staying makes an expression that stays as it is between instants.
func (m *maker) staying(t string, deep int) api.Expr {
	return m.within(may{}, func() api.Expr { return m.expr(t, deep) })
}

// slope makes what a der goes on by.
func (m *maker) slope() api.Expr {
	now := m.may
	now.ders = !m.kinded
	return m.within(now, func() api.Expr { return m.expr("rat", 3) })
}

// up makes an up, or, where none may stand, a truth without Args.
func (m *maker) up(deep int) api.Expr {
	switch {
	case !m.kinded:
		return m.sign(api.EUp, deep, "", "rat")
	case !m.may.hybrid || !m.may.loud:
		return m.leaf("bool")
	}
	return api.Expr{Kind: api.EUp, Args: []api.Expr{m.even(deep - 1)}, Pos: m.place()}
}

// even makes a rat that stays between instants, or goes on evenly.
func (m *maker) even(deep int) api.Expr {
	m.left--
	if deep <= 1 || m.left <= 0 || m.chance(3) {
		return m.leaf("rat")
	}
	e := api.Expr{Kind: api.EBin, Pos: m.place()}
	switch m.dice(5) {
	case 0:
		e.Kind, e.Name = api.EUn, "-"
		e.Args = []api.Expr{m.even(deep - 1)}
	case 1:
		e.Name = one(m, "+", "-")
		e.Args = []api.Expr{m.even(deep - 1), m.even(deep - 1)}
	case 2:
		e.Name = "*"
		e.Args = []api.Expr{m.even(deep - 1), m.staying("rat", deep-1)}
		shuffle(m, e.Args)
	case 3:
		e.Name = "/"
		e.Args = []api.Expr{m.even(deep - 1), m.staying("rat", deep-1)}
	case 4:
		e.Kind = api.EIf
		e.Args = []api.Expr{m.staying("bool", deep-1), m.even(deep - 1), m.even(deep - 1)}
	}
	return e
}
