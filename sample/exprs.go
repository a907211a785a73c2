package sample

import "foliot/api"

// expr makes an expression of one type that fits this one.
func (m *maker) expr(t string, deep int) api.Expr {
	m.left--
	if deep <= 1 || m.left <= 0 || m.chance(3) {
		return m.leaf(t)
	}
	switch m.dice(9) {
	case 0, 1:
		return m.remembered(t, deep)
	case 2:
		return m.sign(api.EIf, deep, "", "bool", t, t)
	case 3:
		return m.call(deep, t)
	}
	switch t {
	case "bool":
		return m.truth(deep)
	case "int":
		return m.whole(deep)
	case "rat":
		return m.exact(deep)
	}
	return m.leaf(t)
}

// sign makes an expression of Args of these types.
func (m *maker) sign(kind, deep int, name string, types ...string) api.Expr {
	e := api.Expr{Kind: kind, Name: name, Pos: m.place()}
	for _, t := range types {
		e.Args = append(e.Args, m.expr(t, deep-1))
	}
	return e
}

// remembered makes an expression that goes by what was.
func (m *maker) remembered(t string, deep int) api.Expr {
	switch {
	case !m.may.loud:
		return m.leaf(t)
	case m.may.nothing && m.chance(2):
		return m.pre(t, deep)
	}
	e := api.Expr{Kind: api.EBin, Name: one(m, "->", "fby"), Pos: m.place()}
	second := m.beginning
	if e.Name == "->" {
		second = m.later
	}
	e.Args = []api.Expr{m.expr(t, deep-1), second(t, deep-1)}
	return e
}

func (m *maker) truth(deep int) api.Expr {
	if m.causal && m.may.hybrid && m.may.loud && m.chance(3) {
		return m.up(deep)
	}
	switch m.dice(5) {
	case 0:
		return m.sign(api.EUn, deep, "not", "bool")
	case 1:
		return m.sign(api.EBin, deep, one(m, "and", "or"), "bool", "bool")
	case 2:
		t := one(m, m.types...)
		return m.sign(api.EBin, deep, one(m, "==", "!="), t, t)
	case 3:
		t := one(m, "int", "rat")
		return m.sign(api.EBin, deep, one(m, "<", "<=", ">", ">="), t, t)
	}
	return m.up(deep)
}

func (m *maker) whole(deep int) api.Expr {
	switch m.dice(4) {
	case 0:
		return m.sign(api.EUn, deep, "-", "int")
	case 1:
		return m.sign(api.EBin, deep, one(m, "+", "-", "*"), "int", "int")
	case 2:
		return m.quotient(deep, one(m, "div", "mod"), "int")
	}
	return m.sign(api.EUn, deep, "floor", "rat")
}

func (m *maker) exact(deep int) api.Expr {
	switch m.dice(4) {
	case 0:
		return m.sign(api.EUn, deep, "-", "rat")
	case 1:
		return m.sign(api.EBin, deep, one(m, "+", "-", "*"), "rat", "rat")
	case 2:
		return m.quotient(deep, "/", "rat")
	}
	return m.sign(api.EUn, deep, "rat", "int")
}

func (m *maker) quotient(deep int, name, t string) api.Expr {
	e := api.Expr{Kind: api.EBin, Name: name, Pos: m.place()}
	e.Args = []api.Expr{m.expr(t, deep-1), m.divisor(t, func() api.Expr { return m.expr(t, deep-1) })}
	return e
}

// call makes a call of a node that tells just these types, or, if there is none that may be called, what tells them without.
func (m *maker) call(deep int, types ...string) api.Expr {
	var l []api.Node
	for _, n := range m.nodes {
		if tells(n, types) && m.may.loud && (m.may.hybrid || !n.Hybrid) {
			l = append(l, n)
		}
	}
	switch {
	case len(l) == 0 && len(types) == 1:
		return m.leaf(types[0])
	case len(l) == 0:
		return m.sign(api.ETuple, deep, "", types...)
	}
	n := one(m, l...)
	var wanted []string
	for _, v := range n.In {
		wanted = append(wanted, v.Type)
	}
	return m.told(func() api.Expr { return m.sign(api.ECall, deep, n.Name, wanted...) })
}

func tells(n api.Node, types []string) bool {
	if len(n.Out) != len(types) {
		return false
	}
	for i, v := range n.Out {
		if v.Type != types[i] {
			return false
		}
	}
	return true
}

// leaf makes an expression without Args: a variable, what one was last, or a literal.
func (m *maker) leaf(t string) api.Expr {
	var l []api.Expr
	for _, v := range m.vars {
		if v.Type != t {
			continue
		}
		if (m.may.ders || !m.own[v.Name].der) && m.own[v.Name].rank < m.may.rank {
			l = append(l, api.Expr{Kind: api.EVar, Name: v.Name})
		}
		if m.own[v.Name].begins() {
			l = append(l, api.Expr{Kind: api.ELast, Name: v.Name})
		}
	}
	if len(l) == 0 || m.chance(4) {
		return m.literal(t)
	}
	e := one(m, l...)
	e.Pos = m.place()
	return e
}

// literal makes a literal without a sign; a rat's may be a number that is an int too.
func (m *maker) literal(t string) api.Expr {
	e := api.Expr{Kind: api.ENum, Name: one(m, "0", "1", "2", "7"), Pos: m.place()}
	switch t {
	case "int":
	case "bool":
		e.Kind, e.Name = api.EBool, one(m, "true", "false")
	case "rat":
		e.Name = one(m, e.Name, "0.5", "1.25", "3.0")
	default:
		e.Kind = api.ECtor
		for _, n := range m.enums {
			if n.Name == t {
				e.Name = one(m, n.Ctors...)
			}
		}
	}
	return e
}
