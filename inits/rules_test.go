package inits_test

import (
	"reflect"
	"slices"
	"strconv"
	"strings"
	"testing"

	"foliot/api"
	"foliot/inits"
	"foliot/sample"
	"foliot/show"
)

// ask calls all calls on a program, and on its expressions.
func ask(p api.Program) []any {
	err, place := inits.Check(p)
	out := []any{err, place}
	for _, n := range p.Nodes {
		for _, e := range exprsIn(n.Eqs) {
			level, err, place := inits.Level(*e)
			out = append(out, level, err, place)
		}
	}
	return out
}

func TestNothingIsChanged(t *testing.T) {
	// R4, R5: the same programs, made twice: one is asked, the other is not.
	for seed := range int64(1000) {
		r, s := dice(seed), dice(seed)
		p, q := sample.Begun(r.Intn, 60), sample.Begun(s.Intn, 60)
		if seed%2 == 1 {
			spoil(r, &p)
			spoil(s, &q)
		}
		first := ask(p)
		if !reflect.DeepEqual(p, q) {
			t.Fatal(seed)
		}
		if !reflect.DeepEqual(first, ask(p)) || !reflect.DeepEqual(first, ask(q)) {
			t.Fatal(seed)
		}
	}
}

func TestBehindEnds(t *testing.T) {
	// R4: what lies behind a list's end is neither read nor written to.
	one := func() []api.Expr {
		x := api.Expr{Kind: api.EVar, Name: "x"}
		return []api.Expr{x, x, {Kind: api.EUn, Name: "pre", Args: []api.Expr{x}, Pos: 5}, {Kind: api.EUn, Name: "pre"}}
	}
	args := one()
	for count, want := range []api.Errno{api.OK, api.OK, api.OK, api.ErrInit} {
		e := api.Expr{Kind: api.ECall, Name: "f", Args: args[:count]}
		if level, err, place := inits.Level(e); level != 0 || err != want || place != 5*int(want/api.ErrInit) {
			t.Error(count, level, err, place)
		}
	}
	if level, err, _ := inits.Level(api.Expr{Kind: api.ETuple, Args: args[:3]}); level != 1 || err != api.OK {
		t.Error(level, err)
	}
	if !reflect.DeepEqual(args, one()) {
		t.Error(args)
	}
}

func TestWhateverIsGiven(t *testing.T) {
	// R1: all calls end, at all arguments; what is not right is told ahead of all that is not told at first.
	e := func(kind int, name string, args ...api.Expr) api.Expr {
		return api.Expr{Kind: kind, Name: name, Args: args}
	}
	for kind := -1; kind < 14; kind++ {
		for _, name := range append(strings.Fields("x X 1 true - not pre floor rat + * / < == and fby -> up"), "") {
			for _, inner := range []api.Expr{{}, e(api.EVar, "x"), e(api.EUn, "pre", e(api.EVar, "x")), e(kind, name), e(kind, name, e(api.EVar, "y")), e(api.EUn, "pre"), e(api.EBin, "->"), e(api.EBin, "fby", e(api.EVar, "y")), e(-1, "pre")} {
				for count := range 5 {
					asksAny(t, e(kind, name, slices.Repeat([]api.Expr{inner}, count)...))
				}
			}
		}
		eq := api.Eq{Kind: kind, Args: []api.Expr{{}}}
		many := api.Eq{Kind: kind, Blocks: [][]api.Eq{nil, {eq}, {{}, eq}}, States: []api.State{{}, {Eqs: []api.Eq{eq}, Trans: []api.Trans{{}}}}}
		for _, q := range []api.Eq{{Kind: kind}, eq, many} {
			p := api.Program{Enums: make([]api.Enum, 2), Nodes: []api.Node{{}, {Name: "main", Hybrid: kind%2 == 0, Eqs: []api.Eq{q}}}}
			if err, place := inits.Check(p); err != api.ErrArg || place != 0 {
				t.Fatal(p, err, place)
			}
		}
	}
}

// asksAny asks of any expression for its level: ErrArg, 0, if it is not right.
func asksAny(t *testing.T, e api.Expr) {
	t.Helper()
	if show.RightExpr(e) {
		agreesLevel(t, e)
		return
	}
	if level, err, place := inits.Level(e); level != 0 || err != api.ErrArg || place != 0 {
		t.Fatal(e, level, err, place)
	}
}

func TestDeepTrees(t *testing.T) {
	// The bound: trees of 10000, of which each level has more than one Arg.
	e := api.Expr{Kind: api.EUn, Name: "pre", Args: []api.Expr{{Kind: api.EVar, Name: "y"}}}
	for i := range 9990 {
		e = api.Expr{Kind: api.EBin, Name: []string{"+", "fby", "->"}[i%3], Args: []api.Expr{e, {Kind: api.EVar, Name: "y"}}}
		if i%2 == 0 {
			slices.Reverse(e.Args)
		}
	}
	if level, err, place := inits.Level(e); level != 0 || err != api.ErrArg || place != 0 {
		t.Error(level, err, place)
	}
	q := api.Eq{Kind: api.QDef, Names: []string{"x"}, Args: []api.Expr{e}}
	p := api.Program{Nodes: []api.Node{{Name: "main", Out: []api.Var{{Name: "x", Type: "rat"}}, Eqs: []api.Eq{q}}}}
	if err, place := inits.Check(p); err != api.ErrArg || place != 0 {
		t.Error(err, place)
	}
}

func TestDeepestEquations(t *testing.T) {
	// 11.2: as deep as a right program may be: what is innermost is asked.
	nest := func(inner string) string {
		for i := range api.MaxDepth - 4 {
			switch i % 3 {
			case 0:
				inner = "reset { " + inner + " } every b;"
			case 1:
				inner = "present b then { } else { " + inner + " };"
			case 2:
				inner = "automaton state A { } until b then B state B { " + inner + " } end;"
			}
		}
		return inner
	}
	hybrid(t, nest("y = 0 -> pre y;")+rest, api.OK)
	hybrid(t, nest("y = 0 @+ pre y;")+rest, api.ErrInit)
	hybrid(t, nest("der y = @pre v;")+rest, api.ErrInit)
	minus := strings.Repeat("- ", api.MaxDepth-5)
	hybrid(t, "y = 0 -> "+minus+"pre v;"+rest, api.OK)
	hybrid(t, "y = "+minus+"(0 -> pre v);"+rest, api.OK)
	hybrid(t, "y = @"+minus+"pre v;"+rest, api.ErrInit)
	hybrid(t, "y = 0 -> "+minus+"go(@pre v);"+rest, api.ErrInit)
}

func TestMuch(t *testing.T) {
	// 11.1, 11.2: much of everything, in not much more time than it takes to read it.
	const n = 20000
	name := func(i int) string { return "x" + strconv.Itoa(i) }
	leaf := func(i int) api.Expr { return api.Expr{Kind: api.EVar, Name: name(i)} }
	was := func(e api.Expr) api.Expr { return api.Expr{Kind: api.EUn, Name: "pre", Args: []api.Expr{e}, Pos: 3} }
	begun := func(e api.Expr) api.Expr {
		return api.Expr{Kind: api.EBin, Name: "->", Args: []api.Expr{{Kind: api.ENum, Name: "1"}, e}, Pos: 4}
	}
	main := api.Node{Name: "main"}
	all := api.Expr{Kind: api.ETuple, Pos: 5}
	for i := range n {
		main.Out = append(main.Out, api.Var{Name: name(i), Type: "rat"})
		e := begun(was(leaf(n - 1 - i)))
		main.Eqs = append(main.Eqs, api.Eq{Kind: api.QDef, Names: []string{name(i)}, Args: []api.Expr{e}})
		all.Args = append(all.Args, e)
	}
	p := api.Program{Nodes: []api.Node{main}}
	if err, place := inits.Check(p); err != api.OK || place != 0 {
		t.Fatal(err, place)
	}
	if level, err, place := inits.Level(all); level != 0 || err != api.OK || place != 0 {
		t.Fatal(level, err, place)
	}
	all.Args[n-1] = was(leaf(1))
	if level, err, place := inits.Level(all); level != 1 || err != api.OK || place != 0 {
		t.Fatal(level, err, place)
	}
	all.Kind, all.Name = api.ECall, "f"
	if level, err, place := inits.Level(all); level != 0 || err != api.ErrInit || place != 3 {
		t.Fatal(level, err, place)
	}
	main.Eqs[n-1].Args[0] = was(leaf(1))
	if err, place := inits.Check(p); err != api.ErrInit || place != 3 {
		t.Fatal(err, place)
	}
}

func TestAnyPlaces(t *testing.T) {
	// 11.1, R6: places are told as they stand, whatever they are.
	for _, at := range []int{-1 << 63, -1, 0, 1, 1<<63 - 1} {
		x := api.Expr{Kind: api.EVar, Name: "x", Pos: 9}
		e := api.Expr{Kind: api.EUn, Name: "pre", Args: []api.Expr{x}, Pos: at}
		for _, whole := range []api.Expr{{Kind: api.EUn, Name: "pre", Args: []api.Expr{{Kind: api.EUn, Name: "pre", Args: []api.Expr{x}}}, Pos: at}, {Kind: api.EBin, Name: "fby", Args: []api.Expr{x, e}}, {Kind: api.EUp, Args: []api.Expr{e}}, {Kind: api.ECall, Name: "f", Args: []api.Expr{x, e}}} {
			if level, err, place := inits.Level(whole); level != 0 || err != api.ErrInit || place != at {
				t.Error(whole, level, err, place)
			}
		}
	}
}
