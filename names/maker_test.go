package names_test

import (
	"math/rand"
	"strconv"

	"foliot/api"
)

// maker makes random programs whose names are right, and then spoils some of them. Places are all over, so that none of them says anything of what stands ahead.
type maker struct {
	r       *rand.Rand
	size    int // how much may yet be made
	ctors   []string
	nodes   []api.Node          // made already: they may be called
	all     []api.Var           // of the node that is made
	own     map[string]api.Var  // likewise
	der     map[string]struct{} // of its own ones those that are told as ders
	changes []func()            // ways to spoil the program
}

func newMaker(seed int64, size int) *maker {
	return &maker{r: rand.New(rand.NewSource(seed)), size: size}
}

func (m *maker) place() int { return m.r.Int() - m.r.Int() }

func (m *maker) chance(n int) bool { return m.r.Intn(n) == 0 }

func one[T any](m *maker, of ...T) T { return of[m.r.Intn(len(of))] }

func numbered(head string, n int) string { return head + strconv.Itoa(n) }

func (m *maker) program() api.Program {
	var p api.Program
	for i := range m.r.Intn(3) {
		e := api.Enum{Name: numbered("t", i), Pos: m.place()}
		for j := range 1 + m.r.Intn(2) {
			e.Ctors = append(e.Ctors, numbered("S", 2*i+j))
		}
		m.ctors = append(m.ctors, e.Ctors...)
		p.Enums = append(p.Enums, e)
	}
	n := 1 + m.r.Intn(3)
	main := m.r.Intn(n)
	for i := range n {
		name := numbered("f", i)
		if i == main {
			name = "main"
		}
		m.nodes = append(m.nodes, m.node(name, len(p.Enums)))
	}
	p.Nodes = append(p.Nodes, m.nodes...)
	m.r.Shuffle(n, func(i, j int) { p.Nodes[i], p.Nodes[j] = p.Nodes[j], p.Nodes[i] })
	return p
}

func (m *maker) node(name string, enums int) api.Node {
	n := api.Node{Name: name, Hybrid: m.chance(2), Pos: m.place()}
	m.all, m.own, m.der = nil, map[string]api.Var{}, map[string]struct{}{}
	count := 0
	var own []string
	howMany := [3]int{m.r.Intn(4), 1 + m.r.Intn(3), m.r.Intn(2)}
	for at, l := range []*[]api.Var{&n.In, &n.Out, &n.Local} {
		for range howMany[at] {
			v := api.Var{Name: numbered("x", count), Type: one(m, "bool", "int", "rat"), Pos: m.place()}
			count++
			if name == "main" && at == 0 {
				v.Type = "rat"
			} else if enums > 0 && m.chance(3) {
				v.Type = numbered("t", m.r.Intn(enums))
			}
			if at > 0 {
				if m.chance(2) {
					v.Init = []api.Expr{m.literal()}
				}
				m.own[v.Name] = v
				own = append(own, v.Name)
				if m.chance(3) {
					m.der[v.Name] = struct{}{}
				}
			}
			*l = append(*l, v)
			m.all = append(m.all, v)
		}
	}
	n.Eqs = m.telling(own, false, 4)
	return n
}

func (m *maker) literal() api.Expr {
	e := api.Expr{Kind: api.ENum, Name: "1", Pos: m.place()}
	switch {
	case len(m.ctors) > 0 && m.chance(2):
		e.Kind, e.Name = api.ECtor, one(m, m.ctors...)
	case m.chance(3):
		return api.Expr{Kind: api.EUn, Name: "-", Args: []api.Expr{e}, Pos: m.place()}
	}
	return e
}

func (m *maker) expr(deep int) api.Expr {
	m.size--
	if deep <= 1 || m.size <= 0 || m.chance(3) {
		return m.leaf()
	}
	e := api.Expr{Kind: one(m, api.EUn, api.EBin, api.EIf, api.ECall, api.ECall, api.EUp, api.ETuple), Pos: m.place()}
	args := 1
	switch e.Kind {
	case api.EUn:
		e.Name = one(m, "-", "pre")
	case api.EBin:
		args, e.Name = 2, one(m, "+", "->", "fby")
	case api.EIf:
		args = 3
	case api.ETuple:
		args = 2
	case api.ECall:
		if len(m.nodes) == 0 {
			return m.leaf()
		}
		n := one(m, m.nodes...)
		args, e.Name = len(n.In), n.Name
	}
	for range args {
		e.Args = append(e.Args, m.expr(deep-1))
	}
	return e
}

func (m *maker) leaf() api.Expr {
	v := one(m, m.all...)
	if len(v.Init) > 0 && m.chance(2) {
		return api.Expr{Kind: api.ELast, Name: v.Name, Pos: m.place()}
	}
	if m.chance(3) {
		return m.literal()
	}
	return api.Expr{Kind: api.EVar, Name: v.Name, Pos: m.place()}
}

func (m *maker) exprs(n int) []api.Expr {
	var out []api.Expr
	for range n {
		out = append(out, m.expr(3))
	}
	return out
}

// telling makes equations that tell each of some names once; within: whether that is in a present or an automaton.
func (m *maker) telling(l []string, within bool, deep int) []api.Eq {
	l = append([]string(nil), l...)
	m.r.Shuffle(len(l), func(i, j int) { l[i], l[j] = l[j], l[i] })
	var out []api.Eq
	for len(l) > 0 || m.size > 0 && m.chance(6) {
		n := min(len(l), m.r.Intn(4))
		q := m.eq(l[:n], within, deep)
		if len(q.Names) == n || q.Kind > api.QDer {
			out, l = append(out, q), l[n:]
		}
	}
	return out
}

// eq makes an equation that tells these names, if it can: without names one that tells none.
func (m *maker) eq(l []string, within bool, deep int) api.Eq {
	m.size--
	q := api.Eq{Kind: 3 + m.r.Intn(3), Pos: m.place()}
	ders, begin := 0, 0
	for _, name := range l {
		if _, ok := m.der[name]; ok {
			ders++
		}
		begin += len(m.own[name].Init)
	}
	simple := len(l) == 1 || len(l) > 0 && ders == 0
	if simple && (deep == 0 || m.size <= 0 || m.chance(2)) {
		return m.definition(q, l, ders > 0)
	}
	if deep == 0 && len(l) > 0 || q.Kind != api.QReset && ders > 0 && begin < len(l) {
		return api.Eq{} // let it be others
	}
	switch q.Kind {
	case api.QReset:
		q.Blocks = [][]api.Eq{m.telling(l, within, deep-1)}
		q.Args = m.exprs(1)
	case api.QPresent:
		q.Args = m.exprs(1)
		for _, part := range m.shared(l, 2) {
			q.Blocks = append(q.Blocks, m.telling(part, true, deep-1))
		}
	case api.QAuto:
		for i, part := range m.shared(l, 1+m.r.Intn(3)) {
			q.States = append(q.States, api.State{Name: numbered("S", i), Eqs: m.telling(part, true, deep-1), Pos: m.place()})
		}
		for i := range q.States {
			for range m.r.Intn(3) {
				to := one(m, q.States...).Name
				q.States[i].Trans = append(q.States[i].Trans, api.Trans{Cond: m.expr(3), To: to, Keep: m.chance(2), Pos: m.place()})
			}
		}
	}
	return q
}

func (m *maker) definition(q api.Eq, l []string, der bool) api.Eq {
	q.Kind, q.Names, q.Args = api.QDef, append([]string(nil), l...), m.exprs(1)
	if der {
		q.Kind, q.Again = api.QDer, m.exprs(2*m.r.Intn(2))
		if len(m.own[l[0]].Init) == 0 || m.chance(2) {
			q.Init = m.exprs(1)
		}
	}
	return q
}

// shared gives names to some blocks: those without a beginning to all, others to one at least.
func (m *maker) shared(l []string, n int) [][]string {
	out := make([][]string, n)
	for _, name := range l {
		must := m.r.Intn(n)
		for i := range out {
			if i == must || len(m.own[name].Init) == 0 || m.chance(2) {
				out[i] = append(out[i], name)
			}
		}
	}
	return out
}

// spoil makes some changes in a program.
func (m *maker) spoil(p *api.Program, n int) {
	for range n {
		m.changes = nil
		change(m, &p.Enums, api.Enum{Name: "t0", Ctors: []string{"S1"}})
		for i := range p.Enums {
			m.text(&p.Enums[i].Name, "t")
			m.texts(&p.Enums[i].Ctors, "S")
		}
		change(m, &p.Nodes, api.Node{Name: "f0", Out: []api.Var{{Name: "x0", Type: "rat"}}})
		for i := range p.Nodes {
			m.spoilNode(&p.Nodes[i])
		}
		one(m, m.changes...)()
	}
}

func (m *maker) text(s *string, head string) {
	m.changes = append(m.changes, func() {
		*s = one(m, numbered(head, m.r.Intn(5)), numbered(head, 9), *s)
		if head == "f" && m.chance(2) {
			*s = "main"
		}
	})
}

func (m *maker) texts(l *[]string, head string) {
	change(m, l, numbered(head, m.r.Intn(4)))
	for i := range *l {
		m.text(&(*l)[i], head)
	}
}

// change may put one thing more into a list, take one out, put one twice, or put two about.
func change[T any](m *maker, l *[]T, more T) {
	m.changes = append(m.changes, func() {
		i := m.r.Intn(len(*l) + 1)
		if i == len(*l) || m.chance(3) {
			*l = append((*l)[:i:i], append([]T{more}, (*l)[i:]...)...)
			return
		}
		j := m.r.Intn(len(*l))
		switch m.r.Intn(3) {
		case 0:
			*l = append((*l)[:i:i], (*l)[i+1:]...)
		case 1:
			*l = append((*l)[:i:i], append([]T{(*l)[j]}, (*l)[i:]...)...)
		case 2:
			(*l)[i], (*l)[j] = (*l)[j], (*l)[i]
		}
	})
}

func (m *maker) spoilNode(n *api.Node) {
	m.text(&n.Name, "f")
	for _, l := range []*[]api.Var{&n.In, &n.Out, &n.Local} {
		change(m, l, api.Var{Name: numbered("x", m.r.Intn(6)), Type: "rat", Pos: m.place()})
		for i := range *l {
			v := &(*l)[i]
			m.text(&v.Name, "x")
			m.changes = append(m.changes, func() { v.Type = one(m, "bool", "int", "rat", "t0", "t1", "t9", "f0") })
			change(m, &v.Init, api.Expr{Kind: api.ECtor, Name: numbered("S", m.r.Intn(6)), Pos: m.place()})
			m.spoilExprs(v.Init)
		}
	}
	m.spoilEqs(&n.Eqs)
}

func (m *maker) spoilEqs(l *[]api.Eq) {
	name := []string{numbered("x", m.r.Intn(6))}
	number := []api.Expr{{Kind: api.ENum, Name: "0", Pos: m.place()}}
	change(m, l, api.Eq{Kind: one(m, api.QDef, api.QDer), Names: name, Args: number, Pos: m.place()})
	for i := range *l {
		q := &(*l)[i]
		if q.Kind == api.QDef {
			m.texts(&q.Names, "x")
		}
		if q.Kind == api.QDer {
			m.text(&q.Names[0], "x")
			change(m, &q.Init, number[0])
		}
		m.spoilExprs(q.Args)
		m.spoilExprs(q.Init)
		m.spoilExprs(q.Again)
		for j := range q.Blocks {
			m.spoilEqs(&q.Blocks[j])
		}
		if q.Kind == api.QAuto {
			change(m, &q.States, api.State{Name: numbered("S", m.r.Intn(4)), Pos: m.place()})
		}
		for j := range q.States {
			x := &q.States[j]
			m.text(&x.Name, "S")
			m.spoilEqs(&x.Eqs)
			for k := range x.Trans {
				m.text(&x.Trans[k].To, "S")
				m.spoilExpr(&x.Trans[k].Cond)
			}
		}
	}
}

func (m *maker) spoilExprs(l []api.Expr) {
	for i := range l {
		m.spoilExpr(&l[i])
	}
}

func (m *maker) spoilExpr(e *api.Expr) {
	for kind, head := range []string{api.ECtor: "S", api.EVar: "x", api.ELast: "x", api.ECall: "f"} {
		if kind == e.Kind && head != "" {
			m.text(&e.Name, head)
		}
	}
	if e.Kind == api.ECall {
		change(m, &e.Args, api.Expr{Kind: api.ENum, Name: "7"})
	}
	if e.Kind == api.EVar || e.Kind == api.ELast {
		m.changes = append(m.changes, func() { e.Kind = api.EVar + api.ELast - e.Kind })
	}
	if len(e.Args) == 0 && e.Kind != api.ECall {
		m.changes = append(m.changes, func() {
			e.Kind, e.Name = api.ECall, one(m, "main", "f0", "fff")
		})
	}
	m.spoilExprs(e.Args)
}
