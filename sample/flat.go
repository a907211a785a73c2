package sample

import (
	"math"

	"foliot/api"
	"foliot/ratio"
)

// Flat makes a good flat program of so many variables (layer 12); what each needs (layer 13) stands ahead of it in some order, or, where circles may be, anywhere.
func Flat(dice func(n int) int, vars int, circles bool) api.Flat {
	vars = max(vars, 0)
	m := &flatMaker{maker: newMaker(dice, 0), Flat: api.Flat{Names: make([]string, vars)}, circles: circles}
	for v := range vars {
		m.row = append(m.row, v)
	}
	shuffle(m.maker, m.row)
	m.early = (vars + 2) / 3
	for i := range m.dice(4) {
		m.Ins = append(m.Ins, numbered("x", i))
	}
	if vars > 0 {
		m.ends()
	}
	for place := range vars {
		m.Eqs = append(m.Eqs, m.equation(place))
	}
	shuffle(m.maker, m.Eqs)
	return m.Flat
}

// flatMaker is what is made of a flat program.
type flatMaker struct {
	*maker
	api.Flat
	row     []int // variables, each behind all that it may need, if circles may not be
	early   int   // how many are ahead of who reads what is kept, so that they may reset it
	circles bool
}

// ends makes what is asked for behind all equations.
func (m *flatMaker) ends() {
	m.Outs, m.Again = m.picked(m.row, 0, 2), m.picked(m.row, 0, 1)
	for range m.dice(4) {
		m.Mems = append(m.Mems, api.Mem{Init: m.value(), Next: m.any(), Guard: m.guard(m.row), Resets: m.resets()})
	}
	for range m.dice(4) {
		x := api.Cont{Init: m.value(), Var: m.any(), Guard: m.guard(m.row), Resets: m.resets()}
		for range m.dice(3) {
			x.Slopes = append(x.Slopes, api.Slope{Guard: m.guard(m.row), Var: m.any()})
		}
		m.Conts = append(m.Conts, x)
	}
	for range m.dice(4) {
		x := api.Cross{Guard: m.guard(m.row)}
		for ahead := range 1 + m.dice(6) {
			x.Ops = append(x.Ops, m.asked(ahead))
		}
		m.Cross = append(m.Cross, x)
	}
}

// asked makes an operation of a crossing that has so many ahead of it.
func (m *flatMaker) asked(ahead int) api.COp {
	op := one(m.maker, "var", "cont")
	if ahead > 0 {
		op = one(m.maker, "var", "cont", "neg", "+", "-", "*", "/", "sel")
	}
	if op == "cont" && len(m.Conts) == 0 {
		op = "var"
	}
	a, b := m.dice(max(ahead, 1)), m.dice(max(ahead, 1))
	switch op {
	case "var":
		return api.COp{Op: op, Args: []int{m.any()}}
	case "cont":
		return api.COp{Op: op, Args: []int{m.dice(len(m.Conts))}}
	case "neg":
		return api.COp{Op: op, Args: []int{a}}
	case "*":
		return api.COp{Op: op, Args: []int{a, b, m.dice(2)}}
	case "sel":
		return api.COp{Op: op, Args: []int{m.any(), a, b}}
	}
	return api.COp{Op: op, Args: []int{a, b}}
}

// equation makes the one of the variable that stands at a place of the row.
func (m *flatMaker) equation(place int) api.FEq {
	may := m.row[:place]
	if m.circles {
		may = m.row
	}
	q := api.FEq{Var: m.row[place], Op: "lit", K: m.dice(5) - 2, Guard: m.guard(may)}
	switch {
	case len(may) > 0 && !m.chance(3):
		q.Op, q.Args = m.operation(may)
	case m.chance(5):
		q.Lit = m.value()
	default:
		m.read(&q, m.circles || place >= m.early)
	}
	return q
}

// operation makes one of variables.
func (m *maker) operation(may []int) (string, []int) {
	switch m.dice(6) {
	case 0:
		return one(m, "copy", "neg", "not", "floor", "rat"), m.picked(may, 1, 1)
	case 1:
		return one(m, "gand", "mrg"), m.picked(may, 1, 5)
	case 2:
		return "sel", m.picked(may, 3, 3)
	}
	return one(m, "+", "-", "*", "/", "div", "mod", "<", "<=", ">", ">=", "==", "!=", "and", "or"), m.picked(may, 2, 2)
}

// read lets an equation read something, if there is such a thing.
func (m *flatMaker) read(q *api.FEq, kept bool) {
	ops, howMany := []string{"in", "flag"}, []int{len(m.Ins), len(m.Cross)}
	if kept {
		ops, howMany = append(ops, "mem", "cont"), append(howMany, len(m.Mems), len(m.Conts))
	}
	if i := m.dice(len(ops)); howMany[i] > 0 {
		q.Op, q.K = ops[i], m.dice(howMany[i])
	}
}

// picked are so many variables of these; one may stand twice.
func (m *maker) picked(of []int, least, most int) []int {
	var out []int
	for range least + m.dice(most-least+1) {
		out = append(out, of[m.dice(len(of))])
	}
	return out
}

func (m *flatMaker) any() int { return m.row[m.dice(len(m.row))] }

// guard is a variable of these, or none.
func (m *maker) guard(of []int) int {
	if len(of) == 0 || !m.chance(3) {
		return -1 - m.dice(3)
	}
	return of[m.dice(len(of))]
}

func (m *flatMaker) resets() []int {
	if m.circles {
		return m.picked(m.row, 0, 2)
	}
	return m.picked(m.row[:m.early], 0, 2)
}

func (m *maker) value() api.Value {
	switch m.dice(5) {
	case 0:
		return api.Value{}
	case 1:
		return api.Value{Kind: api.VBool, Num: ratio.Of(int64(m.dice(2)))}
	case 2:
		return api.Value{Kind: api.VCtor, Name: numbered("S", m.dice(2))}
	}
	return api.Value{Kind: api.VNum, Num: ratio.Of(int64(m.dice(9) - 4))}
}

// Odd makes a flat program that may be good or not, with few variables, and numbers of all sizes for what should be places.
func Odd(dice func(n int) int) api.Flat {
	m := newMaker(dice, 0)
	f := api.Flat{Names: make([]string, dice(3)), Ins: make([]string, dice(2)), Outs: m.odds(1)}
	for v := range f.Names {
		args := m.odds(3)
		op := one(m, [][]string{{"lit", "mem", "cont"}, {"copy", "gand"}, {"+", "mrg"}, {"sel", "gand"}}[len(args)]...)
		if m.chance(6) {
			op = one(m, "", "lit", "copy", "+", "sel", "mem")
		}
		f.Eqs = append(f.Eqs, api.FEq{Var: v, Op: op, Args: args, K: dice(3) - 1, Guard: one(m, -1, m.odd())})
	}
	if m.chance(2) {
		f.Mems = append(f.Mems, api.Mem{Guard: one(m, -1, m.odd()), Resets: m.odds(2)})
		f.Conts = append(f.Conts, api.Cont{Guard: one(m, -1, m.odd()), Resets: m.odds(2)})
	}
	if m.chance(4) {
		f.Conts = append(f.Conts, api.Cont{Guard: -1, Slopes: []api.Slope{{Guard: one(m, -1, m.odd()), Var: m.odd()}}})
		f.Cross = append(f.Cross, api.Cross{Guard: one(m, -1, m.odd()), Ops: []api.COp{{Op: one(m, "var", "sel", "cont", "lit"), Args: m.odds(3)}}})
	}
	return f
}

func (m *maker) odd() int {
	if m.chance(9) {
		return one(m, math.MinInt, -1, 2, math.MaxInt)
	}
	return m.dice(2)
}

func (m *maker) odds(most int) []int {
	var out []int
	for range m.dice(most + 1) {
		out = append(out, m.odd())
	}
	return out
}
