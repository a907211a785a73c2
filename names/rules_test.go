package names_test

import (
	"reflect"
	"strconv"
	"strings"
	"testing"

	"foliot/api"
	"foliot/names"
)

// ask calls all calls on a program; what is told hangs on it alone, and ends.
func ask(p api.Program) []any {
	err, place := names.Check(p)
	i, j := names.Ctor(p, "S1")
	out := []any{err, place, names.Node(p, "main"), i, j}
	for _, n := range p.Nodes {
		out = append(out, names.Ders(n), names.Calls(n))
	}
	return out
}

func TestNothingIsChanged(t *testing.T) {
	// R4, R5: the same programs, made twice: one is asked, the other is not.
	for seed := range int64(1500) {
		m, other := newMaker(seed, 60), newMaker(seed, 60)
		p, q := m.program(), other.program()
		if seed%2 == 1 {
			m.spoil(&p, 2)
			other.spoil(&q, 2)
		}
		first := ask(p)
		if !reflect.DeepEqual(p, q) {
			t.Fatal(seed)
		}
		if !reflect.DeepEqual(first, ask(p)) || !reflect.DeepEqual(first, ask(q)) {
			t.Fatal(seed)
		}
	}
}

func TestBehindEnds(t *testing.T) {
	// R4: what lies behind a list's end is not written to; what is handed out is new.
	call := func(name string) api.Expr { return api.Expr{Kind: api.ECall, Name: name} }
	args := []api.Expr{call("g"), call("h"), call("k")}
	ders := []string{"x", "y"}
	eqs := []api.Eq{{Kind: api.QDer, Names: ders[:1], Args: args[:1]}, {Kind: api.QDer, Names: []string{"z"}, Args: args[1:2]}, {Kind: api.QDer, Names: []string{"u"}}}
	outs := []api.Var{{Name: "x", Type: "rat", Init: []api.Expr{{Kind: api.ENum, Name: "0"}}}, {Name: "z", Type: "rat"}, {Name: "w", Type: "rat"}}
	n := api.Node{Name: "main", Out: outs[:2], Eqs: eqs[:2]}
	for range 2 {
		d, c := names.Ders(n), names.Calls(n)
		if strings.Join(d, " ") != "x z" || strings.Join(c, " ") != "g h" {
			t.Fatal(d, c)
		}
		if err, place := names.Check(api.Program{Nodes: []api.Node{n}}); err != api.ErrName || place != 0 {
			t.Fatal(err, place)
		}
		for _, l := range [][]string{d, c, d[:cap(d)], c[:cap(c)]} {
			for i := range l {
				l[i] = "changed"
			}
		}
	}
	if ders[0] != "x" || ders[1] != "y" || args[0].Name != "g" || args[2].Name != "k" || eqs[2].Names[0] != "u" || outs[2].Name != "w" {
		t.Fatal(ders, args, eqs, outs)
	}
}

func TestWhateverIsGiven(t *testing.T) {
	// R1: all calls end, at all arguments.
	e := func(kind int, args ...api.Expr) api.Expr { return api.Expr{Kind: kind, Args: args} }
	for kind := -1; kind < 14; kind++ {
		for _, inner := range []api.Expr{{}, e(kind), e(kind, e(api.ECall), e(-1)), e(api.ECall, e(kind))} {
			for q := range 8 {
				for _, l := range [][]api.Expr{nil, {inner}, {inner, inner, inner}} {
					eq := api.Eq{Kind: q - 1, Args: l, Init: l, Again: l}
					many := eq
					many.Names, many.Blocks, many.States = []string{"", "x", "x"}, [][]api.Eq{nil, {eq}, {{}, eq}}, []api.State{{}, {Eqs: []api.Eq{eq}, Trans: []api.Trans{{}, {Cond: inner}}}}
					p := api.Program{Enums: make([]api.Enum, 2), Nodes: []api.Node{{}, {Name: "main", Eqs: []api.Eq{eq, many}}, {Out: []api.Var{{}, {Init: l}}}}}
					if err, place := names.Check(p); err != api.ErrArg || place != 0 {
						t.Fatal(p, err, place)
					}
					ask(p)
				}
			}
		}
	}
}

func TestDeepTrees(t *testing.T) {
	// The bound: trees of 10000.
	e := api.Expr{Kind: api.ECall, Name: "f"}
	for range 9990 {
		e = api.Expr{Kind: api.ECall, Name: "g", Args: []api.Expr{e}}
	}
	q := api.Eq{Kind: api.QDer, Names: []string{"x"}, Args: []api.Expr{{Kind: api.ECall, Name: "f"}}}
	for i := range 9990 {
		switch block := []api.Eq{q}; i % 3 {
		case 0:
			q = api.Eq{Kind: api.QReset, Blocks: [][]api.Eq{block}, Args: []api.Expr{{Kind: api.ECall, Name: "h"}}}
		case 1:
			q = api.Eq{Kind: api.QPresent, Blocks: [][]api.Eq{nil, block}, Args: []api.Expr{{Kind: api.ECall, Name: "g"}}}
		case 2:
			q = api.Eq{Kind: api.QAuto, States: []api.State{{Name: "A", Eqs: block}}}
		}
	}
	for want, q := range map[string]api.Eq{"/g f": {Kind: api.QDef, Names: []string{"x"}, Args: []api.Expr{e}}, "x/g f h": q} {
		n := api.Node{Name: "main", Out: []api.Var{{Name: "x", Type: "rat"}}, Eqs: []api.Eq{q}}
		if got := strings.Join(names.Ders(n), " ") + "/" + strings.Join(names.Calls(n), " "); got != want {
			t.Error(got)
		}
		if err, place := names.Check(api.Program{Nodes: []api.Node{n}}); err != api.ErrArg || place != 0 {
			t.Error(err, place)
		}
	}
}

func TestDeepest(t *testing.T) {
	// 8.1: as deep as a right program may be: what is innermost is asked.
	nest := func(inner string) string {
		for i := range api.MaxDepth - 2 {
			switch i % 3 {
			case 0:
				inner = "reset { " + inner + " } every v;"
			case 1:
				inner = "present v then { } else { " + inner + " };"
			case 2:
				inner = "automaton state A { } until v then B state B { " + inner + " } end;"
			}
		}
		return inner
	}
	rest := whole + "x = 1;"
	within(t, nest("xi = v;")+rest, api.OK)
	within(t, nest("xi = @q;")+rest, api.ErrName)
	within(t, nest("@v = 1;")+rest, api.ErrDef)
	within(t, nest("xi = 1; @xi = 2;")+rest, api.ErrTwice)
	within(t, "xi = 1; @"+nest("xi = 1;")+rest, api.ErrTwice)
	within(t, "xi = "+strings.Repeat("- ", api.MaxDepth-2)+"@q;", api.ErrName)
}

func TestMuch(t *testing.T) {
	// 8.1: much of everything, in not much more time than it takes to read it.
	const n = 20000
	name := func(head string, i int) string { return head + strconv.Itoa(i) }
	number := []api.Expr{{Kind: api.ENum, Name: "1"}}
	var p api.Program
	main := api.Node{Name: "main"}
	auto := api.Eq{Kind: api.QAuto}
	pattern := api.Eq{Kind: api.QDef, Args: number}
	e := api.Enum{Name: "t"}
	for i := range n {
		p.Enums = append(p.Enums, api.Enum{Name: name("u", i), Ctors: []string{name("U", i)}})
		e.Ctors = append(e.Ctors, name("T", i))
		main.In = append(main.In, api.Var{Name: name("v", i), Type: "rat"})
		main.Out = append(main.Out, api.Var{Name: name("x", i), Type: name("u", i), Init: []api.Expr{{Kind: api.ECtor, Name: name("T", i)}}})
		main.Local = append(main.Local, api.Var{Name: name("y", i), Type: "t"}, api.Var{Name: name("z", i), Type: "t"})
		main.Eqs = append(main.Eqs, api.Eq{Kind: api.QDef, Names: []string{name("y", i)}, Args: []api.Expr{{Kind: api.ECall, Name: name("f", n-1-i), Args: []api.Expr{{Kind: api.EVar, Name: name("v", i)}}}}})
		pattern.Names = append(pattern.Names, name("z", i))
		auto.States = append(auto.States, api.State{Name: name("S", i), Eqs: []api.Eq{{Kind: api.QDef, Names: []string{name("x", i)}, Args: []api.Expr{{Kind: api.ELast, Name: name("x", n-1-i)}}}},
			Trans: []api.Trans{{Cond: number[0], To: name("S", n-1-i)}}})
		f := api.Node{Name: name("f", i), In: []api.Var{{Name: "a", Type: "int"}}, Out: []api.Var{{Name: "b", Type: "int"}}, Eqs: []api.Eq{{Kind: api.QDef, Names: []string{"b"}, Args: number}}, Pos: i}
		if i > 0 {
			f.Eqs[0].Args = []api.Expr{{Kind: api.ECall, Name: name("f", i-1), Args: number}}
		}
		p.Nodes = append(p.Nodes, f)
	}
	p.Enums = append(p.Enums, e)
	main.Eqs = append(main.Eqs, pattern, auto)
	p.Nodes = append(p.Nodes, main)
	if err, place := names.Check(p); err != api.OK || place != 0 {
		t.Fatal(err, place)
	}
	if l := names.Calls(main); len(l) != n || l[0] != name("f", n-1) || l[n-1] != "f0" {
		t.Fatal(len(l))
	}
	p.Nodes[0].Eqs[0].Args = []api.Expr{{Kind: api.ECall, Name: name("f", n/2), Args: number}}
	p.Nodes[0], p.Nodes[n/2+1] = p.Nodes[n/2+1], p.Nodes[0] // that one lies on no cycle
	if err, place := names.Check(p); err != api.ErrRound || place != 1 {
		t.Fatal(err, place)
	}
	auto.States[n-1].Trans[0].To, auto.States[n-1].Trans[0].Pos = "S", 77
	if err, place := names.Check(p); err != api.ErrName || place != 77 {
		t.Fatal(err, place)
	}
}

func TestLongNames(t *testing.T) {
	// 8.1: names may be longer than a source.
	long := strings.Repeat("x", api.MaxSource+5)
	n := api.Node{Name: "main", In: []api.Var{{Name: long + "y", Type: "rat"}}, Out: []api.Var{{Name: long, Type: "rat"}}, Eqs: []api.Eq{{Kind: api.QDef, Names: []string{long}, Args: []api.Expr{{Kind: api.EVar, Name: long + "y", Pos: 5}}}}}
	if err, place := names.Check(api.Program{Nodes: []api.Node{n}}); err != api.OK || place != 0 {
		t.Fatal(err, place)
	}
	n.Eqs[0].Args[0].Name = long + "z"
	if err, place := names.Check(api.Program{Nodes: []api.Node{n}}); err != api.ErrName || place != 5 {
		t.Fatal(err, place)
	}
}
