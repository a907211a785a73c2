package names_test

import (
	"slices"
	"strings"
	"testing"

	"foliot/api"
	"foliot/graph"
	"foliot/names"
	"foliot/parse"
	"foliot/show"
)

// marked tells the program of a source, and the place of the @ in it, which is not part of it; 0 without one.
func marked(t *testing.T, src string) (api.Program, int) {
	t.Helper()
	head, tail, _ := strings.Cut(src, "@")
	p, err, place := parse.Parse([]byte(head + tail))
	if err != api.OK {
		t.Fatalf("%s: %v, %d", src, err, place)
	}
	if tail == "" {
		return p, 0
	}
	return p, len(head)
}

// tells asks that Check tells this of a source, at its mark.
func tells(t *testing.T, src string, want api.Errno) {
	t.Helper()
	p, at := marked(t, src)
	if err, place := names.Check(p); err != want || place != at {
		t.Errorf("%s: got %v, %d, want %v, %d", src, err, place, want, at)
	}
	agrees(t, p)
}

// within tells it of equations in a node main with variables of all kinds; there are a node f of two In and a node g of none, and a type with A and B. That own variables are told is asked last, so o and l need not be.
func within(t *testing.T, eqs string, want api.Errno) {
	t.Helper()
	tells(t, "type t = {A, B}; node g() returns (y: rat) let y = 1; tel node f(a: rat, b: rat) returns (y: rat) let y = a; tel"+
		" hybrid main(v: rat, w: rat) returns (x: rat, xi: rat init 0) var y: rat; yi: rat init 1; z: rat; zi: t init A; let "+eqs+" tel", want)
}

// whole is all of within's own variables but x and xi, told.
const whole = " y = 1; yi = 1; z = 1; zi = A;"

// The words of the chapter, said again: what is told is asked name by name and block by block, and all that is wrong is listed, the first error ahead.

type finding struct {
	err   api.Errno
	place int
}

// finder lists what is wrong.
type finder struct {
	found []finding
	p     api.Program
	n     api.Node
}

func (f *finder) say(wrong bool, err api.Errno, place int) {
	if wrong {
		f.found = append(f.found, finding{err, place})
	}
}

// agrees holds Check against the words.
func agrees(t *testing.T, p api.Program) api.Errno {
	t.Helper()
	want := finding{}
	if l := findings(p); len(l) > 0 {
		want = l[0]
	}
	err, place := names.Check(p)
	if (finding{err, place}) != want {
		text, _ := show.Show(p)
		t.Fatalf("%s\n%v: got %v, %d, want %v", text, p, err, place, want)
	}
	return err
}

func findings(p api.Program) []finding {
	if !show.Right(p) {
		return []finding{{api.ErrArg, 0}}
	}
	f := &finder{p: p}
	for i, e := range p.Enums {
		for _, a := range p.Enums[:i] {
			f.say(a.Name == e.Name, api.ErrTwice, e.Pos)
		}
		for j, c := range e.Ctors {
			f.say(slices.Contains(e.Ctors[:j], c), api.ErrTwice, e.Pos)
			for _, a := range p.Enums[:i] {
				f.say(slices.Contains(a.Ctors, c), api.ErrTwice, e.Pos)
			}
		}
	}
	for i, n := range p.Nodes {
		f.say(f.node(n.Name) < i, api.ErrTwice, n.Pos)
	}
	for _, n := range p.Nodes {
		f.n = n
		f.oneNode()
	}
	f.calls()
	return f.found
}

func (f *finder) calls() {
	g := make([][]int, len(f.p.Nodes))
	for i, n := range f.p.Nodes {
		for _, s := range spots(n.Eqs) {
			if s.e != nil && s.e.Kind == api.ECall {
				g[i] = append(g[i], f.node(s.e.Name))
			}
		}
	}
	for i, n := range f.p.Nodes {
		f.say(graph.Reach(g, i)[i], api.ErrRound, n.Pos)
	}
	main := f.node("main")
	f.say(main < 0, api.ErrMain, 0)
	if main >= 0 {
		for _, v := range f.p.Nodes[main].In {
			f.say(v.Type != "rat", api.ErrMain, f.p.Nodes[main].Pos)
		}
	}
}

func (f *finder) node(name string) int {
	return slices.IndexFunc(f.p.Nodes, func(n api.Node) bool { return n.Name == name })
}

func (f *finder) isCtor(name string) bool {
	return slices.ContainsFunc(f.p.Enums, func(e api.Enum) bool { return slices.Contains(e.Ctors, name) })
}

func (f *finder) isEnum(name string) bool {
	return slices.ContainsFunc(f.p.Enums, func(e api.Enum) bool { return e.Name == name })
}

func is(name string) func(api.Var) bool {
	return func(v api.Var) bool { return v.Name == name }
}

func (f *finder) own() []api.Var { return slices.Concat(f.n.Out, f.n.Local) }

func (f *finder) isOwn(name string) bool { return slices.ContainsFunc(f.own(), is(name)) }

func (f *finder) begins(name string) bool {
	i := slices.IndexFunc(f.own(), is(name))
	return i >= 0 && len(f.own()[i].Init) == 1
}

func (f *finder) oneNode() {
	all := slices.Concat(f.n.In, f.n.Out, f.n.Local)
	for i, v := range all {
		f.say(slices.ContainsFunc(all[:i], is(v.Name)), api.ErrTwice, v.Pos)
		f.say(!slices.Contains([]string{"bool", "int", "rat"}, v.Type) && !f.isEnum(v.Type), api.ErrName, v.Pos)
		for _, e := range v.Init {
			f.say(e.Kind == api.ECtor && !f.isCtor(e.Name), api.ErrName, e.Pos)
		}
	}
	for _, s := range spots(f.n.Eqs) {
		f.spot(s)
	}
	f.row(f.n.Eqs)
	for _, q := range always(f.n.Eqs) {
		f.say(len(q.Init) == 0 && !f.begins(q.Names[0]), api.ErrDef, q.Pos)
	}
	for _, v := range f.own() {
		f.say(!slices.ContainsFunc(f.n.Eqs, func(q api.Eq) bool { return how(q, v.Name) != not }), api.ErrDef, v.Pos)
	}
}

// spot is something at which something is asked: an equation, an expression, or a transition of an automaton.
type spot struct {
	q *api.Eq
	e *api.Expr
	t *api.Trans
}

// spots lists a row's spots in the order in which they are read; of a transition behind its condition.
func spots(l []api.Eq) []spot {
	var out []spot
	exprs := func(rows ...[]api.Expr) {
		for _, e := range slices.Concat(rows...) {
			out = append(out, parts(e)...)
		}
	}
	for i := range l {
		q := l[i]
		out = append(out, spot{q: &q})
		switch q.Kind {
		case api.QReset:
			out = append(out, spots(q.Blocks[0])...)
			exprs(q.Args)
		case api.QPresent:
			exprs(q.Args)
			out = append(append(out, spots(q.Blocks[0])...), spots(q.Blocks[1])...)
		case api.QAuto:
			for _, x := range q.States {
				out = append(out, spots(x.Eqs)...)
				for j := range x.Trans {
					exprs([]api.Expr{x.Trans[j].Cond})
					out = append(out, spot{q: &q, t: &x.Trans[j]})
				}
			}
		default:
			exprs(q.Args, q.Init, q.Again)
		}
	}
	return out
}

// parts lists an expression and all that is part of it.
func parts(e api.Expr) []spot {
	out := []spot{{e: &e}}
	for _, a := range e.Args {
		out = append(out, parts(a)...)
	}
	return out
}

func (f *finder) spot(s spot) {
	switch {
	case s.t != nil:
		f.say(!slices.ContainsFunc(s.q.States, func(x api.State) bool { return x.Name == s.t.To }), api.ErrName, s.t.Pos)
	case s.e != nil:
		f.expr(*s.e)
	case s.q.Kind == api.QAuto:
		for i, x := range s.q.States {
			f.say(slices.ContainsFunc(s.q.States[:i], func(a api.State) bool { return a.Name == x.Name }), api.ErrTwice, x.Pos)
		}
	default:
		for _, name := range s.q.Names {
			f.say(!f.isOwn(name), api.ErrDef, s.q.Pos)
		}
	}
}

func (f *finder) expr(e api.Expr) {
	switch e.Kind {
	case api.EVar:
		f.say(!f.isOwn(e.Name) && !slices.ContainsFunc(f.n.In, is(e.Name)), api.ErrName, e.Pos)
	case api.ECtor:
		f.say(!f.isCtor(e.Name), api.ErrName, e.Pos)
	case api.ELast:
		f.say(!f.isOwn(e.Name) || !f.begins(e.Name), api.ErrDef, e.Pos)
	case api.ECall:
		at := f.node(e.Name)
		f.say(at < 0, api.ErrName, e.Pos)
		f.say(at >= 0 && len(f.p.Nodes[at].In) != len(e.Args), api.ErrCall, e.Pos)
	}
}

// How an equation tells a name.
const (
	not   = 0
	plain = 1
	asDer = 2
)

func how(q api.Eq, name string) int {
	out := not
	if slices.Contains(q.Names, name) {
		out = plain
		if q.Kind == api.QDer {
			out = asDer
		}
	}
	for _, block := range blocks(q) {
		out = max(out, howRow(block, name))
	}
	return out
}

func howRow(l []api.Eq, name string) int {
	out := not
	for _, q := range l {
		out = max(out, how(q, name))
	}
	return out
}

// blocks lists an equation's blocks, or those of its states.
func blocks(q api.Eq) [][]api.Eq {
	out := slices.Clone(q.Blocks)
	for _, x := range q.States {
		out = append(out, x.Eqs)
	}
	return out
}

// tops lists the names that an equation has anywhere in it, as they stand.
func tops(q api.Eq) []string {
	out := slices.Clone(q.Names)
	for _, block := range blocks(q) {
		for _, b := range block {
			out = append(out, tops(b)...)
		}
	}
	return out
}

// row lists what is wrong with what a row tells.
func (f *finder) row(l []api.Eq) {
	for i, q := range l {
		for _, block := range blocks(q) {
			f.row(block)
		}
		if q.Kind == api.QPresent || q.Kind == api.QAuto {
			f.branches(q)
		}
		for j, name := range tops(q) {
			f.say(howRow(l[:i], name) != not, api.ErrTwice, q.Pos)
			f.say(q.Kind == api.QDef && slices.Contains(q.Names[:j], name), api.ErrTwice, q.Pos)
		}
	}
}

func (f *finder) branches(q api.Eq) {
	for _, name := range tops(q) {
		var hows []int
		for _, block := range blocks(q) {
			hows = append(hows, howRow(block, name))
		}
		der := slices.Contains(hows, asDer)
		f.say(der && slices.Contains(hows, plain), api.ErrTwice, q.Pos)
		f.say((der || slices.Contains(hows, not)) && !f.begins(name), api.ErrBranch, q.Pos)
	}
}

// always lists the ders that stand not within a present or an automaton.
func always(l []api.Eq) []api.Eq {
	var out []api.Eq
	for _, q := range l {
		if q.Kind == api.QDer {
			out = append(out, q)
		}
		if q.Kind == api.QReset {
			out = append(out, always(q.Blocks[0])...)
		}
	}
	return out
}
