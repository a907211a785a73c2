package types_test

import (
	"slices"
	"strings"
	"testing"

	"foliot/api"
	"foliot/names"
	"foliot/parse"
	"foliot/show"
	"foliot/types"
)

// marked tells a source without the @ in it, and the place of that; 0 without one.
func marked(src string) (string, int) {
	head, tail, there := strings.Cut(src, "@")
	if !there {
		return src, 0
	}
	return head + tail, len(head)
}

func program(t *testing.T, src string) api.Program {
	t.Helper()
	p, err, place := parse.Parse([]byte(src))
	if err != api.OK {
		t.Fatalf("%s: %v, %d", src, err, place)
	}
	return p
}

// tells asks that Check tells this of a source, at its mark.
func tells(t *testing.T, src string, want api.Errno) {
	t.Helper()
	src, at := marked(src)
	p := program(t, src)
	if err, place := types.Check(p); err != want || place != at {
		t.Errorf("%s: got %v, %d, want %v, %d", src, err, place, want, at)
	}
	agrees(t, p)
}

// The words of the chapter, said again: a type is the list of those that it may be at last, of num two of them; what is wrong is all listed, the first one ahead.

type finding struct {
	err   api.Errno
	place int
}

// finder lists what is wrong.
type finder struct {
	found []finding
	p     api.Program
	n     api.Node
}

func (f *finder) say(wrong bool, place int) {
	if wrong {
		f.found = append(f.found, finding{api.ErrType, place})
	}
}

func (f *finder) first() finding {
	return append(f.found, finding{})[0]
}

// agrees holds Check against the words.
func agrees(t *testing.T, p api.Program) api.Errno {
	t.Helper()
	f := &finder{p: p}
	if err, place := names.Check(p); err != api.OK {
		f.found = []finding{{err, place}}
	} else {
		f.nodes()
	}
	err, place := types.Check(p)
	if (finding{err, place}) != f.first() {
		text, _ := show.Show(p)
		t.Fatalf("%s\n%v: got %v, %d, want %v", text, p, err, place, f.found)
	}
	return err
}

// agreesOf holds Of against the words.
func agreesOf(t *testing.T, p api.Program, n api.Node, e api.Expr) api.Errno {
	t.Helper()
	f := &finder{p: p, n: n}
	var want []string
	if !show.RightExpr(e) {
		f.found = []finding{{api.ErrArg, 0}}
	} else {
		for _, l := range f.types(e) {
			want = append(want, nameOf(l))
		}
	}
	if len(f.found) > 0 {
		want = nil
	}
	got, err, place := types.Of(p, n, e)
	if (finding{err, place}) != f.first() || !slices.Equal(got, want) {
		text, _ := show.ShowExpr(e)
		t.Fatalf("%s\n%v: got %v, %v, %d, want %v, %v", text, e, got, err, place, want, f.found)
	}
	return err
}

// may tells what a type may be at last.
func may(t string) []string {
	if t == "num" {
		return []string{"int", "rat"}
	}
	return []string{t}
}

func nameOf(l []string) string {
	if len(l) == 2 {
		return "num"
	}
	return strings.Join(l, "")
}

// both tells what is in two lists.
func both(a, b []string) []string {
	return slices.DeleteFunc(slices.Clone(a), func(t string) bool { return !slices.Contains(b, t) })
}

func subset(l, all []string) bool { return len(both(l, all)) == len(l) }

// asked is what a sign asks: what all its Args may be must be something, within some types if these are told, with one if that is told.
type asked struct {
	within, with, gives string
}

func asks() map[string]asked {
	out := map[string]asked{
		"not": {"bool", "bool", ""}, "pre": {}, "floor": {"int rat", "rat", "int"}, "rat": {"int rat", "int", "rat"}, "": {"int rat", "rat", "bool"},
		"/": {"int rat", "rat", "rat"},
	}
	for text, a := range map[string]asked{
		"and or": {"bool", "bool", ""}, "-> fby": {}, "+ - *": {"int rat", "", ""}, "div mod": {"int rat", "int", "int"}, "< <= > >=": {"int rat", "", "bool"}, "== !=": {"", "", "bool"},
	} {
		for _, sign := range strings.Fields(text) {
			out[sign] = a
		}
	}
	return out
}

// types tells of each type that an expression has what it may be.
func (f *finder) types(e api.Expr) [][]string {
	var args [][]string
	for _, a := range e.Args {
		l := f.types(a)
		f.say(len(l) != 1, a.Pos)
		args = append(args, append(l, nil)[0])
	}
	switch e.Kind {
	case api.ETuple:
		return args
	case api.ECall:
		return f.call(e, args)
	case api.EUn, api.EBin, api.EUp:
		return [][]string{f.sign(e, asks()[e.Name], args)}
	case api.EIf:
		f.say(!slices.Equal(args[0], []string{"bool"}), e.Pos)
		return [][]string{f.sign(e, asked{}, args[1:])}
	case api.EBool:
		return [][]string{{"bool"}}
	case api.ENum:
		if strings.Count(e.Name, ".") == 1 {
			return [][]string{{"rat"}}
		}
		return [][]string{{"int", "rat"}}
	case api.ECtor:
		i := slices.IndexFunc(f.p.Enums, func(n api.Enum) bool { return slices.Contains(n.Ctors, e.Name) })
		f.say(i < 0, e.Pos)
		if i < 0 {
			return nil
		}
		return [][]string{may(f.p.Enums[i].Name)}
	}
	t := f.variable(e.Name).Type
	f.say(t == "", e.Pos)
	return [][]string{may(t)}
}

func (f *finder) sign(e api.Expr, a asked, args [][]string) []string {
	l := args[0]
	for _, other := range args {
		l = both(l, other)
	}
	f.say(len(l) == 0, e.Pos)
	f.say(a.within != "" && !subset(l, strings.Fields(a.within)), e.Pos)
	f.say(a.with != "" && !slices.Contains(l, a.with), e.Pos)
	if a.gives != "" {
		return []string{a.gives}
	}
	return l
}

func (f *finder) call(e api.Expr, args [][]string) [][]string {
	i := slices.IndexFunc(f.p.Nodes, func(n api.Node) bool { return n.Name == e.Name })
	f.say(i < 0, e.Pos)
	if i < 0 {
		return nil
	}
	n := f.p.Nodes[i]
	f.say(len(n.In) != len(args), e.Pos)
	for j := range min(len(n.In), len(args)) {
		f.say(!slices.Contains(args[j], n.In[j].Type), e.Pos)
	}
	var out [][]string
	for _, v := range n.Out {
		out = append(out, may(v.Type))
	}
	return out
}

func (f *finder) variable(name string) api.Var {
	l := slices.Concat(f.n.In, f.n.Out, f.n.Local)
	i := slices.IndexFunc(l, func(v api.Var) bool { return v.Name == name })
	if i < 0 {
		return api.Var{}
	}
	return l[i]
}

func (f *finder) nodes() {
	for _, n := range f.p.Nodes {
		f.n = n
		for _, v := range slices.Concat(n.In, n.Out, n.Local) {
			for _, e := range v.Init {
				f.wants(e, v.Type)
			}
		}
		for _, s := range spots(n.Eqs) {
			f.spot(s)
		}
	}
}

// wants asks that an expression has types of which each may be what is wanted in its place.
func (f *finder) wants(e api.Expr, wanted ...string) {
	l := f.types(e)
	f.say(len(l) != len(wanted), e.Pos)
	for i := range min(len(l), len(wanted)) {
		f.say(!slices.Contains(l[i], wanted[i]), e.Pos)
	}
}

// spot is an expression of an equation, and what is asked of it there; of a der that itself too.
type spot struct {
	e     *api.Expr
	names []string // of variables of whose types it must be
	is    string   // else of which type
	der   *api.Eq
}

// spots lists a row's spots in the order in which they are read.
func spots(l []api.Eq) []spot {
	var out []spot
	exprs := func(is string, l []api.Expr) {
		for i := range l {
			out = append(out, spot{e: &l[i], is: is})
		}
	}
	for i := range l {
		q := &l[i]
		switch q.Kind {
		case api.QDef:
			out = append(out, spot{e: &q.Args[0], names: q.Names})
		case api.QDer:
			out = append(out, spot{der: q})
			exprs("rat", slices.Concat(q.Args, q.Init, q.Again[:len(q.Again)/2]))
			exprs("bool", q.Again[len(q.Again)/2:])
		case api.QReset:
			out = append(out, spots(q.Blocks[0])...)
			exprs("bool", q.Args)
		case api.QPresent:
			exprs("bool", q.Args)
			out = append(append(out, spots(q.Blocks[0])...), spots(q.Blocks[1])...)
		case api.QAuto:
			for j := range q.States {
				out = append(out, spots(q.States[j].Eqs)...)
				for k := range q.States[j].Trans {
					out = append(out, spot{e: &q.States[j].Trans[k].Cond, is: "bool"})
				}
			}
		}
	}
	return out
}

func (f *finder) spot(s spot) {
	switch {
	case s.der != nil:
		f.say(f.variable(s.der.Names[0]).Type != "rat", s.der.Pos)
	case s.is != "":
		f.wants(*s.e, s.is)
	default:
		var l []string
		for _, name := range s.names {
			l = append(l, f.variable(name).Type)
		}
		f.wants(*s.e, l...)
	}
}
