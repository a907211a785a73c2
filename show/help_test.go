package show_test

import (
	"fmt"
	"math/rand"
	"strings"
	"testing"

	"foliot/api"
	"foliot/show"
)

// maker makes random right trees; size bounds how much is in them.
type maker struct {
	r    *rand.Rand
	size int
}

func newMaker(seed int64, size int) *maker {
	return &maker{r: rand.New(rand.NewSource(seed)), size: size}
}

func (m *maker) one(of ...string) string { return of[m.r.Intn(len(of))] }

func (m *maker) name() string { return m.one("x", "y", "_z", "fooBar9", "lasts", "n0", "_") }

func (m *maker) ctor() string { return m.one("A", "Red", "C_9", "If") }

func (m *maker) place() int { return m.r.Intn(100) - 20 }

func (m *maker) leaf() api.Expr {
	kind := 1 + m.r.Intn(5)
	name := m.name()
	switch kind {
	case api.EBool:
		name = m.one("true", "false")
	case api.ENum:
		name = m.one("0", "00", "12.50", "7")
	case api.ECtor:
		name = m.ctor()
	}
	return api.Expr{Kind: kind, Name: name, Pos: m.place()}
}

// expr makes an expression that is no deeper than that.
func (m *maker) expr(deep int) api.Expr {
	m.size--
	if deep <= 1 || m.size <= 0 || m.r.Intn(4) == 0 {
		return m.leaf()
	}
	out := api.Expr{Kind: 6 + m.r.Intn(6), Pos: m.place()}
	args := 1
	switch out.Kind {
	case api.EUn:
		out.Name = m.one("-", "not", "pre", "floor", "rat")
	case api.EBin:
		args, out.Name = 2, m.one(strings.Fields("+ - * / div mod < <= > >= == != and or fby ->")...)
	case api.EIf:
		args = 3
	case api.ECall:
		args, out.Name = m.r.Intn(4), m.name()
	case api.ETuple:
		args = 2 + m.r.Intn(3)
	}
	for range args {
		out.Args = append(out.Args, m.expr(deep-1))
	}
	return out
}

func (m *maker) exprs(n, deep int) []api.Expr {
	var out []api.Expr
	for range n {
		out = append(out, m.expr(deep))
	}
	return out
}

// eqs makes equations that are no deeper than that.
func (m *maker) eqs(deep int) []api.Eq {
	var out []api.Eq
	for deep > 1 && m.size > 0 && m.r.Intn(3) > 0 {
		out = append(out, m.eq(deep))
	}
	return out
}

func (m *maker) eq(deep int) api.Eq {
	m.size--
	out := api.Eq{Kind: 1 + m.r.Intn(5), Pos: m.place()}
	args, blocks := 1, 0
	switch out.Kind {
	case api.QDef:
		for range 1 + m.r.Intn(3) {
			out.Names = append(out.Names, m.name())
		}
	case api.QDer:
		out.Names = []string{m.name()}
		out.Init = m.exprs(m.r.Intn(2), deep-1)
		out.Again = m.exprs(2*m.r.Intn(2), deep-1)
	case api.QReset:
		blocks = 1
	case api.QPresent:
		blocks = 2
	case api.QAuto:
		args = 0
		for range 1 + m.r.Intn(3) {
			out.States = append(out.States, m.state(deep-1))
		}
	}
	out.Args = m.exprs(args, deep-1)
	for range blocks {
		out.Blocks = append(out.Blocks, m.eqs(deep-1))
	}
	return out
}

func (m *maker) state(deep int) api.State {
	out := api.State{Name: m.ctor(), Eqs: m.eqs(deep), Pos: m.place()}
	for range m.r.Intn(3) {
		out.Trans = append(out.Trans, api.Trans{Cond: m.expr(deep), To: m.ctor(), Keep: m.r.Intn(2) == 0, Pos: m.place()})
	}
	return out
}

func (m *maker) variables(n int, may bool) []api.Var {
	var out []api.Var
	for range n {
		v := api.Var{Name: m.name(), Type: m.one("bool", "int", "rat", "color"), Pos: m.place()}
		if may && m.r.Intn(2) == 0 {
			v.Init = []api.Expr{m.literal()}
		}
		out = append(out, v)
	}
	return out
}

func (m *maker) literal() api.Expr {
	l := m.leaf()
	for l.Kind > api.ECtor {
		l = m.leaf()
	}
	if l.Kind == api.ENum && m.r.Intn(2) == 0 {
		return api.Expr{Kind: api.EUn, Name: "-", Args: []api.Expr{l}, Pos: m.place()}
	}
	return l
}

func (m *maker) program() api.Program {
	var out api.Program
	for range m.r.Intn(3) {
		e := api.Enum{Name: m.name(), Pos: m.place()}
		for range 1 + m.r.Intn(3) {
			e.Ctors = append(e.Ctors, m.ctor())
		}
		out.Enums = append(out.Enums, e)
	}
	for range m.r.Intn(4) {
		n := api.Node{Name: m.name(), Hybrid: m.r.Intn(2) == 0, Pos: m.place()}
		n.In, n.Out, n.Local = m.variables(m.r.Intn(3), false), m.variables(1+m.r.Intn(2), true), m.variables(m.r.Intn(3), true)
		n.Eqs = m.eqs(api.MaxDepth)
		out.Nodes = append(out.Nodes, n)
	}
	return out
}

// bare puts 0 for all places of a tree and nil for lists of nothing, in a tree that is new.
func bareExprs(l []api.Expr) []api.Expr {
	var out []api.Expr
	for _, e := range l {
		out = append(out, api.Expr{Kind: e.Kind, Name: e.Name, Args: bareExprs(e.Args)})
	}
	return out
}

func bareEqs(l []api.Eq) []api.Eq {
	var out []api.Eq
	for _, q := range l {
		b := api.Eq{Kind: q.Kind, Names: append([]string(nil), q.Names...), Args: bareExprs(q.Args), Init: bareExprs(q.Init), Again: bareExprs(q.Again)}
		for _, block := range q.Blocks {
			b.Blocks = append(b.Blocks, bareEqs(block))
		}
		for _, s := range q.States {
			c := api.State{Name: s.Name, Eqs: bareEqs(s.Eqs)}
			for _, t := range s.Trans {
				c.Trans = append(c.Trans, api.Trans{Cond: bareExprs([]api.Expr{t.Cond})[0], To: t.To, Keep: t.Keep})
			}
			b.States = append(b.States, c)
		}
		out = append(out, b)
	}
	return out
}

func bareVars(l []api.Var) []api.Var {
	var out []api.Var
	for _, v := range l {
		out = append(out, api.Var{Name: v.Name, Type: v.Type, Init: bareExprs(v.Init)})
	}
	return out
}

func bare(p api.Program) api.Program {
	var out api.Program
	for _, e := range p.Enums {
		out.Enums = append(out.Enums, api.Enum{Name: e.Name, Ctors: append([]string(nil), e.Ctors...)})
	}
	for _, n := range p.Nodes {
		out.Nodes = append(out.Nodes, api.Node{Name: n.Name, Hybrid: n.Hybrid, In: bareVars(n.In), Out: bareVars(n.Out), Local: bareVars(n.Local), Eqs: bareEqs(n.Eqs)})
	}
	return out
}

// toldExpr is an expression's text, by the words of 6.2, whatever the expression: one that is no source's tells something.
func toldExpr(e api.Expr) string {
	var parts []string
	for _, a := range e.Args {
		parts = append(parts, toldExpr(a))
	}
	list := "(" + strings.Join(parts, ", ") + ")"
	switch {
	case e.Kind == api.ELast:
		return "last " + e.Name + strings.Join(parts, "")
	case e.Kind == api.EUn && (e.Name == "floor" || e.Name == "rat"):
		return e.Name + list
	case e.Kind == api.EUn:
		return "(" + e.Name + " " + strings.Join(parts, " ") + ")"
	case e.Kind == api.EUp:
		return "up" + e.Name + list
	case e.Kind == api.ECall, e.Kind == api.ETuple:
		return e.Name + list
	case e.Kind == api.EBin:
		return "(" + strings.Join(parts, " "+e.Name+" ") + ")"
	case e.Kind == api.EIf && len(parts) == 3:
		return fmt.Sprintf("(if%s %s then %s else %s)", e.Name, parts[0], parts[1], parts[2])
	}
	return e.Name + strings.Join(parts, "")
}

func toldExprs(ahead string, l []api.Expr) string {
	out := ""
	for _, e := range l {
		out += ahead + toldExpr(e)
	}
	return out
}

func toldVars(l []api.Var) []string {
	var out []string
	for _, v := range l {
		text := v.Name + ": " + v.Type
		for _, e := range v.Init {
			literal := toldExpr(e)
			if strings.HasPrefix(literal, "(- ") && strings.Trim(literal[3:], "0123456789.") == ")" {
				literal = "-" + strings.TrimSuffix(literal[3:], ")")
			}
			text += " init " + literal
		}
		out = append(out, text)
	}
	return out
}

func toldEq(q api.Eq, blanks string) string {
	lines := blanks + strings.Join(q.Names, ", ") + " = "
	if len(q.Names) > 1 {
		lines = blanks + "(" + strings.Join(q.Names, ", ") + ") = "
	}
	block := func(at int) string {
		if at < len(q.Blocks) {
			return toldEqs(q.Blocks[at], blanks+"  ")
		}
		return ""
	}
	switch q.Kind {
	case api.QDef:
		return lines + toldExprs("", q.Args) + ";\n"
	case api.QDer:
		lines = blanks + "der " + strings.Join(q.Names, ", ") + " = " + toldExprs("", q.Args) + toldExprs(" init ", q.Init)
		for i, e := range q.Again {
			lines += []string{" reset ", " when "}[min(i, 1)] + toldExpr(e)
		}
		return lines + ";\n"
	case api.QReset:
		return blanks + "reset {\n" + block(0) + blanks + "} every " + toldExprs("", q.Args) + ";\n"
	case api.QPresent:
		return blanks + "present " + toldExprs("", q.Args) + " then {\n" + block(0) + blanks + "} else {\n" + block(1) + blanks + "};\n"
	case api.QAuto:
		lines = blanks + "automaton\n"
		for _, s := range q.States {
			lines += blanks + "  state " + s.Name + " {\n" + toldEqs(s.Eqs, blanks+"    ") + blanks + "  }\n"
			for _, t := range s.Trans {
				lines += blanks + "    until " + toldExpr(t.Cond) + map[bool]string{false: " then ", true: " continue "}[t.Keep] + t.To + "\n"
			}
		}
		return lines + blanks + "end;\n"
	}
	return ""
}

func toldEqs(l []api.Eq, blanks string) string {
	out := ""
	for _, q := range l {
		out += toldEq(q, blanks)
	}
	return out
}

func told(p api.Program) string {
	out := ""
	for _, e := range p.Enums {
		out += fmt.Sprintf("type %s = { %s };\n", e.Name, strings.Join(e.Ctors, ", "))
	}
	for _, n := range p.Nodes {
		word := map[bool]string{false: "node", true: "hybrid"}[n.Hybrid]
		out += fmt.Sprintf("%s %s(%s) returns (%s)\n", word, n.Name, strings.Join(toldVars(n.In), ", "), strings.Join(toldVars(n.Out), ", "))
		if len(n.Local) > 0 {
			out += "var\n  " + strings.Join(toldVars(n.Local), ";\n  ") + ";\n"
		}
		out += "let\n" + toldEqs(n.Eqs, "  ") + "tel\n"
	}
	return out
}

// shows asks that an expression is right and has a text.
func shows(t *testing.T, e api.Expr) string {
	t.Helper()
	b, err := show.ShowExpr(e)
	if !show.RightExpr(e) || err != api.OK {
		t.Errorf("%v: not right, or %v", e, err)
	}
	return string(b)
}

// refuses asks that an expression is not right, and has no text.
func refuses(t *testing.T, e api.Expr) {
	t.Helper()
	if b, err := show.ShowExpr(e); show.RightExpr(e) || err != api.ErrArg || len(b) > 0 {
		t.Errorf("%.200v: right, or %v, %s", e, err, b)
	}
}

// showsAll and refusesAll ask the same of a program.
func showsAll(t *testing.T, p api.Program) string {
	t.Helper()
	b, err := show.Show(p)
	if !show.Right(p) || err != api.OK {
		t.Errorf("%v: not right, or %v", p, err)
	}
	return string(b)
}

func refusesAll(t *testing.T, p api.Program) {
	t.Helper()
	if b, err := show.Show(p); show.Right(p) || err != api.ErrArg || len(b) > 0 {
		t.Errorf("%.200v: right, or %v, %s", p, err, b)
	}
}
