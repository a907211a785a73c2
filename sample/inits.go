package sample

import "foliot/api"

// told makes something of which all is told at the first instant, where that is asked for.
func (m *maker) told(make func() api.Expr) api.Expr {
	now := m.may
	now.nothing = !m.begun
	return m.within(now, make)
}

// beginning makes an expression that tells something at the first instant, where that is asked for.
func (m *maker) beginning(t string, deep int) api.Expr {
	return m.free(func() api.Expr {
		return m.told(func() api.Expr { return m.expr(t, deep) })
	})
}

// later makes an expression that nobody asks for at the first instant. Where all others must tell something then, it is often the only one that may tell nothing.
func (m *maker) later(t string, deep int) api.Expr {
	now := m.may
	now.nothing = true
	return m.within(now, func() api.Expr {
		if m.begun && deep > 1 && m.chance(2) {
			return m.pre(t, deep)
		}
		return m.expr(t, deep)
	})
}

func (m *maker) pre(t string, deep int) api.Expr {
	return m.free(func() api.Expr {
		return m.told(func() api.Expr { return m.sign(api.EUn, deep, "pre", t) })
	})
}
