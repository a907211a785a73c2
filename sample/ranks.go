package sample

import "foliot/api"

// anyRank is above those of all variables.
const anyRank = 1 << 30

// ranks lets what variables hang on at an instant be only such of them as are of a lower rank; where that is not asked for, all are of the least one.
func (m *maker) ranks(l []string) {
	if !m.causal {
		return
	}
	l = append([]string(nil), l...)
	shuffle(m, l)
	for i, name := range l {
		v := m.own[name]
		v.rank = i + 1
		m.own[name] = v
	}
}

// ahead makes an expression on which all of these may hang.
func (m *maker) ahead(l []string, make func() api.Expr) api.Expr {
	now := m.may
	for _, name := range l {
		if m.causal {
			now.rank = min(now.rank, m.own[name].rank)
		}
	}
	return m.within(now, make)
}

// free makes an expression on which nothing hangs at the instant.
func (m *maker) free(make func() api.Expr) api.Expr {
	now := m.may
	now.rank = anyRank
	return m.within(now, make)
}

// divisor makes one, where that is asked for seldom 0.
func (m *maker) divisor(t string, make func() api.Expr) api.Expr {
	if !m.causal || m.chance(12) {
		return make()
	}
	name := one(m, "1", "2", "3", "5")
	if t == "rat" && m.chance(3) {
		name = "0.5"
	}
	return api.Expr{Kind: api.ENum, Name: name, Pos: m.place()}
}
