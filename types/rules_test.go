package types_test

import (
	"reflect"
	"slices"
	"strconv"
	"strings"
	"testing"

	"foliot/api"
	"foliot/sample"
	"foliot/types"
)

// ask calls all calls on a program, and on its expressions.
func ask(p api.Program) []any {
	err, place := types.Check(p)
	out := []any{err, place}
	for _, n := range p.Nodes {
		for _, e := range exprsOf(n) {
			l, err, place := types.Of(p, n, e)
			out = append(out, l, err, place)
		}
	}
	return out
}

func TestNothingIsChanged(t *testing.T) {
	// R4, R5: the same programs, made twice: one is asked, the other is not.
	for seed := range int64(1000) {
		r, s := dice(seed), dice(seed)
		p, q := sample.Program(r.Intn, 60), sample.Program(s.Intn, 60)
		if seed%2 == 1 {
			spoil(r, &p, 2)
			spoil(s, &q, 2)
		}
		first := ask(p)
		if !reflect.DeepEqual(p, q) {
			t.Fatal(seed)
		}
		if !reflect.DeepEqual(first, ask(p)) || !reflect.DeepEqual(first, ask(q)) {
			t.Fatal(seed)
		}
	}
}

func TestBehindEnds(t *testing.T) {
	// R4: what lies behind a list's end is not written to; what is handed out is new.
	leaf := func(name string) api.Expr { return api.Expr{Kind: api.EVar, Name: name} }
	args := []api.Expr{leaf("x"), leaf("y"), leaf("z"), leaf("z")}
	vars := []api.Var{{Name: "x", Type: "int"}, {Name: "y", Type: "bool"}, {Name: "z", Type: "rat"}}
	ins := slices.Clone(vars)
	f := api.Node{Name: "f", In: ins[:2], Out: vars[:2]}
	n := api.Node{Name: "main", In: vars[:1], Out: vars[1:2], Local: vars[:0]}
	nodes := []api.Node{f, n, {Name: "g"}}
	p := api.Program{Nodes: nodes[:2]}
	for _, e := range []api.Expr{{Kind: api.ETuple, Args: args[:2]}, {Kind: api.ECall, Name: "f", Args: args[:2]}} {
		for range 2 {
			l, err, place := types.Of(p, n, e)
			if err != api.OK || place != 0 || !slices.Equal(l, []string{"int", "bool"}) {
				t.Fatal(l, err, place)
			}
			for i := range l[:cap(l)] {
				l[:cap(l)][i] = "changed"
			}
		}
	}
	if args[2].Name != "z" || args[3].Name != "z" || vars[2].Name != "z" || !reflect.DeepEqual(ins, vars) || nodes[2].Name != "g" {
		t.Fatal(args, vars, nodes)
	}
	if _, err, _ := types.Of(p, n, leaf("z")); err != api.ErrType {
		t.Fatal(err)
	}
}

func TestWhateverIsGiven(t *testing.T) {
	// R1: all calls end, at all arguments; of what is not right nothing is told but that.
	e := func(kind int, args ...api.Expr) api.Expr { return api.Expr{Kind: kind, Args: args} }
	for kind := -1; kind < 14; kind++ {
		for _, inner := range []api.Expr{{}, e(kind), e(kind, e(api.ECall), e(-1)), e(api.ECall, e(kind)), e(api.ETuple, e(kind))} {
			for q := range 8 {
				for _, l := range [][]api.Expr{nil, {inner}, {inner, inner, inner}} {
					eq := api.Eq{Kind: q - 1, Args: l, Init: l, Again: l}
					many := eq
					many.Names, many.Blocks, many.States = []string{"", "x", "x"}, [][]api.Eq{nil, {eq}, {{}, eq}}, []api.State{{}, {Eqs: []api.Eq{eq}, Trans: []api.Trans{{}, {Cond: inner}}}}
					p := api.Program{Enums: make([]api.Enum, 2), Nodes: []api.Node{{}, {Name: "main", Eqs: []api.Eq{eq, many}}, {Out: []api.Var{{}, {Init: l}}}}}
					if err, place := types.Check(p); err != api.ErrArg || place != 0 {
						t.Fatal(p, err, place)
					}
					for _, n := range p.Nodes {
						for _, whole := range append(exprsOf(n), e(kind, l...), e(api.ETuple, inner, inner)) {
							agreesOf(t, p, n, whole)
						}
					}
				}
			}
		}
	}
}

func TestDeepTrees(t *testing.T) {
	// The bound: trees of 10000.
	e := api.Expr{Kind: api.ENum, Name: "1"}
	for range 9990 {
		e = api.Expr{Kind: api.EUn, Name: "-", Args: []api.Expr{e}}
	}
	q := api.Eq{Kind: api.QDef, Names: []string{"x"}, Args: []api.Expr{{Kind: api.ENum, Name: "1"}}}
	for range 9990 {
		q = api.Eq{Kind: api.QReset, Blocks: [][]api.Eq{{q}}, Args: []api.Expr{{Kind: api.EBool, Name: "true"}}}
	}
	for _, q := range []api.Eq{{Kind: api.QDef, Names: []string{"x"}, Args: []api.Expr{e}}, q} {
		n := api.Node{Name: "main", Out: []api.Var{{Name: "x", Type: "rat"}}, Eqs: []api.Eq{q}}
		p := api.Program{Nodes: []api.Node{n}}
		if err, place := types.Check(p); err != api.ErrArg || place != 0 {
			t.Error(err, place)
		}
		if l, err, place := types.Of(p, n, e); len(l) > 0 || err != api.ErrArg || place != 0 {
			t.Error(l, err, place)
		}
	}
}

func TestDeepest(t *testing.T) {
	// 9.2: as deep as a right program may be: what is innermost is asked.
	nest := func(inner string) string {
		for i := range api.MaxDepth - 2 {
			switch i % 3 {
			case 0:
				inner = "reset { " + inner + " } every b;"
			case 1:
				inner = "present b then { } else { " + inner + " };"
			case 2:
				inner = "automaton state A { } until b then B state B { " + inner + " } end;"
			}
		}
		return inner
	}
	within(t, nest("x = v;")+rest, api.OK)
	within(t, nest("x = @b;")+rest, api.ErrType)
	within(t, nest("der x = @b;")+rest, api.ErrType)
	within(t, "x = "+strings.Repeat("- ", api.MaxDepth-2)+"v;"+rest, api.OK)
	within(t, "x = "+strings.Repeat("- ", api.MaxDepth-3)+"@- b;"+rest, api.ErrType)
}

func TestMuch(t *testing.T) {
	// 9.1, 9.2: much of everything, in not much more time than it takes to read it.
	const n = 20000
	name := func(head string, i int) string { return head + strconv.Itoa(i) }
	leaf := func(kind int, name string) api.Expr { return api.Expr{Kind: kind, Name: name} }
	var p api.Program
	main := api.Node{Name: "main"}
	pattern := api.Eq{Kind: api.QDef, Args: []api.Expr{{Kind: api.ETuple}}}
	tuple := &pattern.Args[0]
	for i := range n {
		p.Enums = append(p.Enums, api.Enum{Name: name("u", i), Ctors: []string{name("U", i)}})
		f := api.Node{Name: name("f", i), In: []api.Var{{Name: "a", Type: name("u", i)}}, Out: []api.Var{{Name: "b", Type: "int"}}, Eqs: []api.Eq{{Kind: api.QDef, Names: []string{"b"}, Args: []api.Expr{leaf(api.ENum, "1")}}}}
		p.Nodes = append(p.Nodes, f)
		main.Out = append(main.Out, api.Var{Name: name("x", i), Type: name("u", i), Init: []api.Expr{leaf(api.ECtor, name("U", i))}})
		main.Local = append(main.Local, api.Var{Name: name("y", i), Type: "int"})
		pattern.Names = append(pattern.Names, name("y", i))
		call := leaf(api.ECall, name("f", n-1-i))
		call.Args = []api.Expr{leaf(api.ELast, name("x", n-1-i))}
		tuple.Args = append(tuple.Args, call)
		main.Eqs = append(main.Eqs, api.Eq{Kind: api.QDef, Names: []string{name("x", i)}, Args: []api.Expr{leaf(api.ECtor, name("U", i))}})
	}
	main.Eqs = append(main.Eqs, pattern)
	p.Nodes = append(p.Nodes, main)
	if err, place := types.Check(p); err != api.OK || place != 0 {
		t.Fatal(err, place)
	}
	if l, err, place := types.Of(p, main, *tuple); len(l) != n || slices.IndexFunc(l, func(t string) bool { return t != "int" }) >= 0 || err != api.OK || place != 0 {
		t.Fatal(len(l), err, place)
	}
	p.Nodes[n/2].In[0].Type, tuple.Args[n-1-n/2].Pos = "u0", 77
	if err, place := types.Check(p); err != api.ErrType || place != 77 {
		t.Fatal(err, place)
	}
	if l, err, place := types.Of(p, main, *tuple); len(l) > 0 || err != api.ErrType || place != 77 {
		t.Fatal(len(l), err, place)
	}
}

func TestLongNames(t *testing.T) {
	// 9.1: names may be longer than a source.
	long := strings.Repeat("x", api.MaxSource+5)
	n := api.Node{Name: "main", In: []api.Var{{Name: long + "y", Type: long + "z"}}}
	e := api.Expr{Kind: api.EVar, Name: long + "y", Pos: 5}
	if l, err, place := types.Of(api.Program{}, n, e); !slices.Equal(l, []string{long + "z"}) || err != api.OK || place != 0 {
		t.Fatal(err, place)
	}
	e.Name = long
	if l, err, place := types.Of(api.Program{}, n, e); len(l) > 0 || err != api.ErrType || place != 5 {
		t.Fatal(err, place)
	}
}
