// Package sample makes programs for the tests of the layers: right ones, whose names and types are right too (layers 6, 8, 9), and, where that is asked for, their kinds (layer 10), what they tell at the first instant (layer 11), and what hangs on what (layer 13); good flat programs (layer 12); and object code that may run (layer 16). What they are like hangs on dice that a test throws.
package sample

import (
	"strconv"

	"foliot/api"
)

// Program makes a program; of dice(n) comes a number from 0 on, below n. Size is about how much is in it. Its places are all over, so that none of them says anything of what stands ahead.
func Program(dice func(n int) int, size int) api.Program {
	return newMaker(dice, size).program()
}

// Kinded makes a program likewise, whose kinds are right too.
func Kinded(dice func(n int) int, size int) api.Program {
	m := newMaker(dice, size)
	m.kinded = true
	return m.program()
}

// Begun makes a program likewise, whose kinds are right, and which tells all at the first instant that it must.
func Begun(dice func(n int) int, size int) api.Program {
	m := newMaker(dice, size)
	m.kinded, m.begun = true, true
	return m.program()
}

// Causal makes a program likewise, in which nothing hangs on itself either (layer 13), and which is worth a run: it seldom divides by nought, and its ders often come to where an up asks them.
func Causal(dice func(n int) int, size int) api.Program {
	m := newMaker(dice, size)
	m.kinded, m.begun, m.causal = true, true, true
	return m.program()
}

func newMaker(dice func(int) int, size int) *maker {
	return &maker{dice: dice, left: size, types: []string{"bool", "int", "rat"}}
}

func (m *maker) program() api.Program {
	for i := range m.dice(3) {
		m.enum(i)
	}
	n := 1 + m.dice(3)
	main := m.dice(n)
	for i := range n {
		name := numbered("f", i)
		if i == main {
			name = "main"
		}
		m.nodes = append(m.nodes, m.node(name))
	}
	shuffle(m, m.nodes)
	return api.Program{Enums: m.enums, Nodes: m.nodes}
}

// maker is what is made of a program, and of a node.
type maker struct {
	dice   func(int) int
	left   int      // how much may yet be made
	kinded bool     // must kinds be right
	begun  bool     // must all be told at the first instant
	causal bool     // must nothing hang on itself
	types  []string // that variables may have
	enums  []api.Enum
	nodes  []api.Node // they may be called by those that come
	vars   []api.Var  // of the node that is made
	own    map[string]ownVar
	may    may // of what is made next
}

// may is what may stand in what is made: what hybrid nodes alone may have, what ders are, what is not quiet, what tells nothing at the first instant; and which of the node's own variables, by their ranks, those below this one.
type may struct {
	hybrid, ders, loud, nothing bool
	rank                        int
}

// ownVar is a variable that is the node's own.
type ownVar struct {
	api.Var
	der  bool
	rank int
}

func (v ownVar) begins() bool { return len(v.Init) > 0 }

func (m *maker) chance(n int) bool { return m.dice(n) == 0 }

// often is half the time, and more where runs are asked for.
func (m *maker) often() bool { return m.chance(2) || m.causal && m.chance(2) }

func (m *maker) place() int { return m.dice(1<<30) - 1<<29 }

func one[T any](m *maker, of ...T) T { return of[m.dice(len(of))] }

func shuffle[T any](m *maker, l []T) {
	for i := range l {
		j := m.dice(i + 1)
		l[i], l[j] = l[j], l[i]
	}
}

func numbered(head string, n int) string { return head + strconv.Itoa(n) }

func (m *maker) enum(i int) {
	e := api.Enum{Name: numbered("t", i), Pos: m.place()}
	for j := range 1 + m.dice(2) {
		e.Ctors = append(e.Ctors, numbered("S", 2*i+j))
	}
	m.enums = append(m.enums, e)
	m.types = append(m.types, e.Name)
}

func (m *maker) node(name string) api.Node {
	n := api.Node{Name: name, Hybrid: m.often(), Pos: m.place()}
	m.vars, m.own, m.may = nil, map[string]ownVar{}, may{hybrid: n.Hybrid || !m.kinded, ders: true, loud: true, nothing: !m.begun, rank: anyRank}
	for range m.dice(4) {
		v := m.variable()
		if name == "main" {
			v.Type = "rat"
		}
		n.In = append(n.In, v)
		m.vars = append(m.vars, v)
	}
	for range 1 + m.dice(3) {
		n.Out = append(n.Out, m.ownVariable())
	}
	for range m.dice(3) {
		n.Local = append(n.Local, m.ownVariable())
	}
	var l []string
	for _, v := range m.vars[len(n.In):] {
		l = append(l, v.Name)
	}
	m.ranks(l)
	n.Eqs = m.telling(l, false, 4)
	return n
}

func (m *maker) variable() api.Var {
	return api.Var{Name: numbered("x", len(m.vars)), Type: one(m, m.types...), Pos: m.place()}
}

func (m *maker) ownVariable() api.Var {
	v := m.variable()
	if m.causal && m.may.hybrid && m.chance(3) {
		v.Type = "rat"
	}
	if m.chance(2) {
		v.Init = []api.Expr{m.literal(v.Type)}
		if (v.Type == "int" || v.Type == "rat") && m.chance(3) {
			v.Init = []api.Expr{{Kind: api.EUn, Name: "-", Args: v.Init, Pos: m.place()}}
		}
	}
	m.vars = append(m.vars, v)
	m.own[v.Name] = ownVar{v, v.Type == "rat" && m.may.hybrid && m.often(), 0}
	return v
}
