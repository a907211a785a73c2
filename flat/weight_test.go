package flat_test

import (
	"reflect"
	"slices"
	"strconv"
	"strings"
	"testing"

	"foliot/api"
	"foliot/flat"
	"foliot/inits"
	"foliot/sample"
)

// weigher tells weights by the chapter's words: of each thing that is one, and of all that is in it.
type weigher map[string]api.Node

func (w weigher) node(n api.Node) int {
	return len(n.In) + len(n.Out) + len(n.Local) + w.eqs(n.Eqs)
}

func (w weigher) eqs(l []api.Eq) int {
	out := len(l)
	for _, q := range l {
		out += w.exprs(slices.Concat(q.Args, q.Init, q.Again)) + w.eqs(slices.Concat(q.Blocks...)) + len(q.States)
		for _, x := range q.States {
			out += w.eqs(x.Eqs) + len(x.Trans)
			for _, t := range x.Trans {
				out += w.exprs([]api.Expr{t.Cond})
			}
		}
	}
	return out
}

func (w weigher) exprs(l []api.Expr) int {
	out := len(l)
	for _, e := range l {
		out += w.exprs(e.Args)
		if e.Kind == api.ECall {
			out += w.node(w[e.Name])
		}
	}
	return out
}

func weight(p api.Program) int {
	w := weigher{}
	for _, n := range p.Nodes {
		w[n.Name] = n
	}
	return w.node(w["main"])
}

func mainOf(p api.Program) *api.Node {
	return &p.Nodes[slices.IndexFunc(p.Nodes, func(n api.Node) bool { return n.Name == "main" })]
}

// padded puts things into main, till it has this weight.
func padded(t *testing.T, p api.Program, to int) api.Program {
	t.Helper()
	main := mainOf(p)
	one := api.Expr{Kind: api.ENum, Name: "1"}
	for more, i := to-weight(p), 0; more > 0; i++ {
		name := "pad" + strconv.Itoa(i)
		e := one
		n := 3
		for ; n < more && (more < 6 || more-n < 3 && more != n); n++ {
			e = api.Expr{Kind: api.EUn, Name: "-", Args: []api.Expr{e}}
		}
		main.Local = append(main.Local, api.Var{Name: name, Type: "int"})
		main.Eqs = append(main.Eqs, api.Eq{Kind: api.QDef, Names: []string{name}, Args: []api.Expr{e}})
		more -= n
	}
	if got := weight(p); got != to {
		t.Fatal(got, to)
	}
	return p
}

// weighs asks that a program may be so heavy as it is allowed, and no heavier.
func weighs(t *testing.T, p api.Program) {
	t.Helper()
	p = padded(t, p, api.MaxFlat)
	if err, place := inits.Check(p); err != api.OK {
		t.Fatal(err, place)
	}
	f := flattened(t, p)
	if len(f.Names) > api.MaxCode {
		t.Error(len(f.Names))
	}
	main := mainOf(p)
	main.Local = append(main.Local, api.Var{Name: "more", Type: "int"})
	last := len(main.Eqs) - 1
	main.Eqs = append(main.Eqs[:last:last], api.Eq{Kind: api.QDef, Names: []string{main.Eqs[last].Names[0], "more"}, Args: []api.Expr{{Kind: api.ETuple, Args: []api.Expr{main.Eqs[last].Args[0], {Kind: api.ENum, Name: "1"}}}}})
	heavy(t, p)
	main.Local[len(main.Local)-1].Init = []api.Expr{{Kind: api.ENum, Name: "1"}}
	heavy(t, p)
}

// heavy asks that a program is too heavy.
func heavy(t *testing.T, p api.Program) {
	t.Helper()
	if err, place := inits.Check(p); err != api.OK {
		t.Fatal(err, place)
	}
	if f, err, place := flat.Of(p); err != api.ErrBig || place != mainOf(p).Pos || !reflect.DeepEqual(f, api.Flat{}) {
		t.Errorf("weight %d: %v, %d", weight(p), err, place)
	}
}

func TestWeights(t *testing.T) {
	// 12.5: at MaxFlat a program is taken, beyond that it is ErrBig, at main's place; each of these counts.
	for _, src := range []string{
		"x: int) let x = 1;",
		"x: int init -3) var y: int init 2; z: bool init true; let x = 1; (y, z) = (2, false);",
		"x: rat init 0, y: rat) let der x = 1; der y = 2 init 1 + 1 reset -y when true and false;",
		"x: int) let reset { x = 0 -> pre x + 1; } every false -> pre x > 3; reset { } every false;",
		"x: int init 0) let present if v > 0 then true else false then { x = last x + 1; present true then { } else { }; } else { };",
		"x: int init 0) let automaton state A { x = 1; automaton state P { } state Q { } end; } until v > 1 then B until true continue A state B { } until not true then B end;",
		"x: rat) let x = if up(v - 1) then rat(floor(v)) + 2 else 1 fby 2;",
		"x: int) let x = f(1) + f(f(2)) + g(f(3)); | node f(n: int) returns (m: int) var k: int; let k = n; m = k; tel node g(n: int) returns (m: int) let m = f(f(n)); tel",
		"x: int, y: int) let (x, y) = f(); | node f() returns (m: int, k: int) let (m, k) = (1, 2); tel node unused() returns (m: int) let m = 1 + 2 + 3 + 4; tel",
	} {
		head, others, _ := strings.Cut(src, "|")
		weighs(t, program(t, others+"\nhybrid main(v: rat) returns ("+head+" tel"))
	}
}

func TestRandomWeights(t *testing.T) {
	// 12.5: so it is with any programs.
	for seed := range int64(100) {
		weighs(t, sample.Begun(dice(seed).Intn, 200))
	}
}

func TestGreatWeights(t *testing.T) {
	// 12.5: calls count as often as they stand; what they come to may be more than any number, and is told all the same.
	var l []string
	for i := range 80 {
		n := strconv.Itoa(i)
		l = append(l, "node f"+n+"() returns (x: int) let x = f"+strconv.Itoa(i+1)+"() + f"+strconv.Itoa(i+1)+"(); tel")
	}
	p := program(t, strings.Join(l, "\n")+" node f80() returns (x: int) let x = 1; tel node main() returns (x: int) let x = f0(); tel")
	heavy(t, p)
	mainOf(p).Eqs[0].Args[0].Name = "f74"
	if want := 3 + 64*8 - 5; weight(p) != want {
		t.Error(weight(p), want)
	}
	weighs(t, p)
	// A long row of calls.
	for _, n := range []int{1332, 1333} {
		p := api.Program{}
		for i := range n {
			name, e := "f"+strconv.Itoa(i), api.Expr{Kind: api.ECall, Name: "f" + strconv.Itoa(i+1)}
			if i == 0 {
				name = "main"
			}
			if i == n-1 {
				e = api.Expr{Kind: api.ENum, Name: "1"}
			}
			p.Nodes = append(p.Nodes, api.Node{Name: name, Out: []api.Var{{Name: "x", Type: "int"}}, Eqs: []api.Eq{{Kind: api.QDef, Names: []string{"x"}, Args: []api.Expr{e}}}, Pos: 5 * i})
		}
		flattened(t, p)
		if n == 1332 {
			weighs(t, p)
		}
	}
}

func TestSmallEnough(t *testing.T) {
	// A flat program is no greater than object code may be, whatever a program is made of.
	for _, q := range []string{"automaton state A { } end;", "reset { } every true;", "present true then { } else { };", "automaton state A { } until true then A end;"} {
		p := program(t, "node main() returns (x: int) let x = 1; tel")
		body := program(t, "node main() returns (x: int) let "+q+" tel").Nodes[0].Eqs[0]
		one := weight(program(t, "node main() returns (x: int) let "+q+" tel")) - 1
		for range (api.MaxFlat - weight(p)) / one {
			p.Nodes[0].Eqs = append(p.Nodes[0].Eqs, body)
		}
		if f := flattened(t, p); len(f.Names) > api.MaxCode {
			t.Error(q, len(f.Names))
		}
	}
}
