package kinds_test

import (
	"reflect"
	"slices"
	"strconv"
	"strings"
	"testing"

	"foliot/api"
	"foliot/kinds"
	"foliot/names"
	"foliot/sample"
)

// ask calls all calls on a program, and on its expressions.
func ask(p api.Program) []any {
	err, place := kinds.Check(p)
	out := []any{err, place}
	for _, n := range p.Nodes {
		ders := names.Ders(n)
		for _, e := range exprsIn(n.Eqs) {
			out = append(out, kinds.Of(*e, ders), kinds.Steady(*e, ders))
		}
	}
	return out
}

func TestNothingIsChanged(t *testing.T) {
	// R4, R5: the same programs, made twice: one is asked, the other is not.
	for seed := range int64(1000) {
		r, s := dice(seed), dice(seed)
		p, q := sample.Kinded(r.Intn, 60), sample.Kinded(s.Intn, 60)
		if seed%2 == 1 {
			spoil(r, &p)
			spoil(s, &q)
		}
		first := ask(p)
		if !reflect.DeepEqual(p, q) {
			t.Fatal(seed)
		}
		if !reflect.DeepEqual(first, ask(p)) || !reflect.DeepEqual(first, ask(q)) {
			t.Fatal(seed)
		}
	}
}

func TestBehindEnds(t *testing.T) {
	// R4: what lies behind a list's end is neither read nor written to.
	leaf := func(name string) api.Expr { return api.Expr{Kind: api.EVar, Name: name} }
	args := []api.Expr{leaf("x"), leaf("y"), leaf("z"), leaf("z")}
	ders := []string{"x", "y", "z"}
	e := api.Expr{Kind: api.EBin, Name: "+", Args: args[:2]}
	for _, want := range []int{0, 1, 1} {
		if got := kinds.Of(e, ders[:want]); got != want || kinds.Steady(e, ders[:want]) != (want == 0) {
			t.Error(want, got)
		}
		if e := (api.Expr{Kind: api.ETuple, Args: args[2:3]}); kinds.Of(e, ders[:2]) != 0 || !kinds.Steady(e, ders[:2]) {
			t.Error(e)
		}
	}
	if !slices.Equal(ders, []string{"x", "y", "z"}) || args[2].Name != "z" || args[3].Name != "z" {
		t.Error(ders, args)
	}
}

func TestWhateverIsGiven(t *testing.T) {
	// R1: all calls end, at all arguments; what a program is not right in is told ahead of all kinds.
	e := func(kind int, name string, args ...api.Expr) api.Expr {
		return api.Expr{Kind: kind, Name: name, Args: args}
	}
	words := strings.Fields("x - not pre floor rat + * / < == and fby -> up")
	for kind := -1; kind < 14; kind++ {
		for _, name := range append(words, "") {
			for _, inner := range []api.Expr{{}, e(kind, "x"), e(api.EVar, "x"), e(api.EVar, "y"), e(kind, name, e(api.EVar, "y")), e(api.ECall, "y"), e(api.EUn, "pre"), e(api.EBin, "->"), e(-1, "pre")} {
				for count := range 5 {
					args := slices.Repeat([]api.Expr{inner}, count)
					for _, whole := range []api.Expr{e(kind, name, args...), e(kind, name, append(args, e(api.EVar, "y"))...), e(kind, name, append([]api.Expr{e(api.EVar, "y")}, args...)...)} {
						agreesOf(t, whole, nil)
						agreesOf(t, whole, []string{"x"})
						agreesOf(t, e(api.EVar, "y", whole), []string{"x"})
					}
				}
			}
		}
		eq := api.Eq{Kind: kind, Args: []api.Expr{{}}}
		many := api.Eq{Kind: kind, Blocks: [][]api.Eq{nil, {eq}, {{}, eq}}, States: []api.State{{}, {Eqs: []api.Eq{eq}, Trans: []api.Trans{{}}}}}
		for _, q := range []api.Eq{{Kind: kind}, eq, many} {
			p := api.Program{Enums: make([]api.Enum, 2), Nodes: []api.Node{{}, {Name: "main", Hybrid: kind%2 == 0, Eqs: []api.Eq{q}}}}
			if err, place := kinds.Check(p); err != api.ErrArg || place != 0 {
				t.Fatal(p, err, place)
			}
		}
	}
}

func TestDeepTrees(t *testing.T) {
	// The bound: trees of 10000, of which each level has more than one Arg; no part is gone through much more than once.
	for _, x := range []struct {
		inner string
		kind  int
	}{{"y", 0}, {"x", 1}, {"b", 2}} {
		e := api.Expr{Kind: api.EVar, Name: x.inner}
		if x.inner == "b" {
			e = api.Expr{Kind: api.EUp, Args: []api.Expr{e}}
		}
		for i := range 9990 {
			e = api.Expr{Kind: api.EBin, Name: "+", Args: []api.Expr{e, {Kind: api.EVar, Name: "y"}}}
			if i%2 == 0 {
				slices.Reverse(e.Args)
			}
		}
		for range 20 {
			if got := kinds.Of(e, []string{"x"}); got != x.kind || kinds.Steady(e, []string{"x"}) != (x.inner != "x") {
				t.Fatal(x, got)
			}
		}
		q := api.Eq{Kind: api.QDef, Names: []string{"x"}, Args: []api.Expr{e}}
		p := api.Program{Nodes: []api.Node{{Name: "main", Out: []api.Var{{Name: "x", Type: "rat"}}, Eqs: []api.Eq{q}}}}
		if err, place := kinds.Check(p); err != api.ErrArg || place != 0 {
			t.Error(err, place)
		}
	}
}

func TestDeepest(t *testing.T) {
	// 10.2: as deep as a right program may be: what is innermost is asked.
	nest := func(inner string) string {
		for i := range api.MaxDepth - 3 {
			switch i % 3 {
			case 0:
				inner = "reset { " + inner + " } every b;"
			case 1:
				inner = "present b then { } else { " + inner + " };"
			case 2:
				inner = "automaton state A { } until b then B state B { " + inner + " } end;"
			}
		}
		return inner
	}
	hybrid(t, nest("y = go(v);")+rest, api.OK)
	hybrid(t, nest("der y = last x;")+rest, api.OK)
	hybrid(t, nest("der y = @x;")+rest, api.ErrKind)
	node(t, nest("y = @go(v);")+still, api.ErrKind)
	node(t, nest("@der y = v;")+still, api.ErrKind)
	minus := strings.Repeat("- ", api.MaxDepth-3)
	hybrid(t, "y = v; der x = 1; der z = 1; b = up("+minus+"x);", api.OK)
	hybrid(t, "y = v; der x = 1; der z = 1; b = @up("+minus[2:]+"pre v);", api.ErrKind)
	hybrid(t, "der y = "+minus+"v;"+rest, api.OK)
	hybrid(t, "der y = @"+minus+"x;"+rest, api.ErrKind)
}

func TestMuch(t *testing.T) {
	// 10.1, 10.2: much of everything, in not much more time than it takes to read it.
	const n = 20000
	name := func(head string, i int) string { return head + strconv.Itoa(i) }
	leaf := func(kind int, name string) api.Expr { return api.Expr{Kind: kind, Name: name} }
	main := api.Node{Name: "main", Hybrid: true}
	var p api.Program
	var ders []string
	sum := api.Expr{Kind: api.ETuple}
	for i := range n {
		ders = append(ders, name("x", i))
		main.Out = append(main.Out, api.Var{Name: name("x", i), Type: "rat"}, api.Var{Name: name("b", i), Type: "bool"}, api.Var{Name: name("y", i), Type: "rat"})
		up := api.Expr{Kind: api.EUp, Args: []api.Expr{leaf(api.EVar, name("x", n-1-i))}}
		call := leaf(api.ECall, name("f", n-1-i))
		main.Eqs = append(main.Eqs, api.Eq{Kind: api.QDer, Names: []string{name("x", i)}, Args: []api.Expr{leaf(api.EVar, name("y", i))}, Init: []api.Expr{leaf(api.ENum, "1")}},
			api.Eq{Kind: api.QDef, Names: []string{name("b", i)}, Args: []api.Expr{up}}, api.Eq{Kind: api.QDef, Names: []string{name("y", i)}, Args: []api.Expr{call}})
		p.Nodes = append(p.Nodes, api.Node{Name: name("f", i), Hybrid: true, Out: []api.Var{{Name: "y", Type: "rat"}}, Eqs: []api.Eq{{Kind: api.QDef, Names: []string{"y"}, Args: []api.Expr{leaf(api.ENum, "1")}}}})
		sum.Args = append(sum.Args, leaf(api.EVar, name("y", i)))
	}
	p.Nodes = append(p.Nodes, main)
	if err, place := kinds.Check(p); err != api.OK || place != 0 {
		t.Fatal(err, place)
	}
	if got := kinds.Of(sum, ders); got != 0 || !kinds.Steady(sum, ders) {
		t.Fatal(got)
	}
	sum.Args[n-1].Name = name("x", n/2)
	if got := kinds.Of(sum, ders); got != 2 || kinds.Steady(sum, ders) {
		t.Fatal(got)
	}
	main.Eqs[3*n-3].Args[0] = leaf(api.EVar, name("x", n/2))
	main.Eqs[3*n-3].Args[0].Pos = 77
	if err, place := kinds.Check(p); err != api.ErrKind || place != 77 {
		t.Fatal(err, place)
	}
}

func TestLongNames(t *testing.T) {
	// 10.1: names may be longer than a source.
	long := strings.Repeat("x", api.MaxSource+5)
	e := api.Expr{Kind: api.EVar, Name: long + "y"}
	if kinds.Of(e, []string{long, long + "y"}) != 1 || kinds.Steady(e, []string{long, long + "y"}) || kinds.Of(e, []string{long, long + "x"}) != 0 || !kinds.Steady(e, []string{long, long + "x"}) {
		t.Error("long names")
	}
}
