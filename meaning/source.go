package meaning

import (
	"slices"

	"foliot/api"
	"foliot/kinds"
	"foliot/ratio"
)

// crossing is an up in a scope.
type crossing struct {
	s *scope
	e *api.Expr
}

// source is main as it runs.
type source struct {
	main   *node
	circle bool
}

// instant is what is known of one, as far as it was asked for.
type instant struct {
	*faults
	in     []api.Rat
	passes map[crossing]struct{}
	vars   map[variable]*cell
	anew   map[*scope]int // does something let it begin
	circle bool
}

type variable struct {
	n    *node
	name string
}

type cell struct {
	busy  bool // is asked for
	value api.Value
}

func (m *source) instant(in []api.Rat, passes map[crossing]struct{}, f *faults) told[crossing] {
	i := &instant{faults: f, in: in, passes: passes, vars: map[variable]*cell{}, anew: map[*scope]int{}}
	t := told[crossing]{lines: map[crossing]line{}}
	var later []func()
	m.main.root.each(func(s *scope) {
		if i.active(s) {
			t.again = i.does(s, t.lines) || t.again
			later = append(later, i.keeps(s)...)
		} else {
			later = append(later, i.rests(s)...)
		}
	})
	for _, v := range m.main.Out {
		t.outs = append(t.outs, i.variable(m.main, v.Name))
	}
	for _, do := range later {
		do()
	}
	m.circle = m.circle || i.circle
	return t
}

// does does all that stands in an active scope, and tells whether it asks for one more instant.
func (i *instant) does(s *scope, lines map[crossing]line) bool {
	for _, e := range s.exprs {
		switch e.Kind {
		case api.ETuple:
		case api.EUp:
			lines[crossing{s, e}] = i.line(s, &e.Args[0])
		default:
			i.value(s, e)
		}
	}
	again := false
	for k := range s.eqs {
		for at, b := range s.parts[&s.eqs[k]] {
			if s.eqs[k].Kind == api.QAuto && i.active(b) {
				again = again || i.goes(b, s.eqs[k].States[at].Trans) != nil
			}
		}
	}
	return again
}

// goes is the transition by which a state is left.
func (i *instant) goes(b *scope, l []api.Trans) *api.Trans {
	for k := range l {
		if isTrue(i.value(b, &l[k].Cond)) {
			return &l[k]
		}
	}
	return nil
}

// keeps is what an active scope keeps, when all of the instant is told.
func (i *instant) keeps(s *scope) []func() {
	later := []func(){func() { s.begun = true }}
	keep := func(e, what *api.Expr) {
		v := i.value(s, what)
		later = append(later, func() { s.kept[e] = v })
	}
	for _, e := range s.exprs {
		if e.Kind == api.EUn && e.Name == "pre" {
			keep(e, &e.Args[0])
		}
		if e.Kind == api.EBin && e.Name == "fby" {
			keep(e, &e.Args[1])
		}
	}
	for k := range s.eqs {
		q := &s.eqs[k]
		if a := s.autos[q]; a != nil {
			later = append(later, i.keepsAuto(s, q, a))
		}
	}
	if s == s.root {
		later = append(later, i.keepsNode(s.node)...)
	}
	return later
}

func (i *instant) keepsAuto(s *scope, q *api.Eq, a *auto) func() {
	next := auto{first: a.first, state: i.stateOf(s, a)}
	for k, b := range s.parts[q] {
		if i.active(b) {
			if t := i.goes(b, q.States[k].Trans); t != nil {
				next.state, next.anew = t.To, !t.Keep
			}
		}
	}
	return func() { *a = next }
}

func (i *instant) keepsNode(n *node) []func() {
	var later []func()
	for _, x := range slices.Concat(n.In, n.Out, n.Local) {
		v := i.variable(n, x.Name)
		later = append(later, func() { n.was[x.Name] = v })
	}
	for _, name := range n.ders {
		rate := i.rate(n, name)
		later = append(later, func() { n.rates[name] = rate })
	}
	return later
}

// rests is what becomes of a scope that is not active: it keeps what it did, but if something lets it begin.
func (i *instant) rests(s *scope) []func() {
	begins := i.begins(s)
	return []func(){func() {
		s.begun = !begins
		if s == s.root {
			clear(s.rates)
		}
	}}
}

func (m *source) move(dt api.Rat, bits int) bool {
	moved := true
	var later []func()
	m.main.root.each(func(s *scope) {
		if s != s.root {
			return
		}
		n := s.node
		for name, rate := range n.rates {
			v := n.was[name]
			if v.Kind != api.VNum || rate.Kind != api.VNum {
				continue
			}
			v.Num = ratio.Add(v.Num, ratio.Mul(rate.Num, dt))
			moved = moved && ratio.Bits(v.Num) <= bits
			later = append(later, func() { n.was[name] = v })
		}
	})
	if moved {
		for _, do := range later {
			do()
		}
	}
	return moved
}

// line is what an up asks, as it goes on behind the instant.
func (i *instant) line(s *scope, e *api.Expr) line {
	switch {
	case kinds.Of(*e, s.ders) == 0:
		return line{i.value(s, e), nought()}
	case e.Kind == api.EVar:
		return line{i.variable(s.node, e.Name), i.rate(s.node, e.Name)}
	case e.Kind == api.EUn:
		return i.even("-", i.line(s, &e.Args[0]))
	case e.Kind == api.EIf:
		return i.choice(i.value(s, &e.Args[0]), i.line(s, &e.Args[1]), i.line(s, &e.Args[2]))
	case e.Name == "*":
		return i.product(i.line(s, &e.Args[0]), i.line(s, &e.Args[1]), kinds.Of(e.Args[1], s.ders) == 0)
	}
	return i.even(e.Name, i.line(s, &e.Args[0]), i.line(s, &e.Args[1]))
}
