package types_test

import (
	"slices"
	"strings"
	"testing"

	"foliot/api"
	"foliot/parse"
	"foliot/types"
)

// world has nodes of all sizes, and one with a variable of each type: its In, Out and Local.
const world = "type t = {A, B}; type u = {C}; node none() returns (y: int) let y = 1; tel " +
	"node two(i: int, r: rat) returns (p: rat, q: bool) let (p, q) = (r, true); tel node ctor(c: t) returns (d: u) let d = C; tel " +
	"node main(r: rat, s: rat) returns (i: int init 0, c: t init A) var b: bool init true; d: u; let i = 1; c = A; b = true; d = C; tel"

// of asks Of for the types of an expression in world's main: the types told with a blank between each two, or at the mark ErrType.
func of(t *testing.T, src, want string) {
	t.Helper()
	src, at := marked(src)
	e, err, _ := parse.ParseExpr([]byte(src))
	if err != api.OK {
		t.Fatal(src)
	}
	p := program(t, world)
	n := p.Nodes[len(p.Nodes)-1]
	got, err, place := types.Of(p, n, e)
	wrong := want == ""
	if strings.Join(got, " ") != want || wrong != (err == api.ErrType) || !wrong && err != api.OK || place != at {
		t.Errorf("%s: got %v, %v, %d, want %s, %d", src, got, err, place, want, at)
	}
	agreesOf(t, p, n, e)
}

func TestExamples(t *testing.T) {
	// 9.1: the chapter's own.
	of(t, "1 + 0.5", "rat")
	of(t, "1 / 2", "rat")
	of(t, "1 div 2", "int")
	of(t, "true @+ 1", "")
}

func TestLeaves(t *testing.T) {
	// 9.1
	for src, want := range map[string]string{
		"true": "bool", "false": "bool", "1": "num", "007": "num", "1.0": "rat", "0.50": "rat", "A": "t", "B": "t", "C": "u",
		"r": "rat", "i": "int", "b": "bool", "c": "t", "d": "u", "last i": "int", "last b": "bool", "last r": "rat", "last c": "t",
	} {
		of(t, src, want)
	}
	for _, src := range []string{"D", "x", "last x", "none", "main", "last t"} { // what is not there
		of(t, src, "")
		of(t, "(1, @"+src+")", "")
	}
}

// samples are expressions of all types that one expression may have.
func samples() map[string]string {
	return map[string]string{"bool": "b", "int": "i", "rat": "r", "num": "1", "t": "c", "u": "d"}
}

func TestOneArg(t *testing.T) {
	// 9.1: each sign at each type: in what is not told it is wrong.
	for sign, list := range map[string]string{
		"not":   "bool:bool",
		"-":     "int:int rat:rat num:num",
		"pre":   "bool:bool int:int rat:rat num:num t:t u:u",
		"floor": "rat:int num:int",
		"rat":   "int:rat num:rat",
		"up":    "rat:bool num:bool",
	} {
		for arg, src := range samples() {
			_, want, _ := strings.Cut(list[max(0, strings.Index(" "+list, " "+arg+":")):], ":")
			if !strings.Contains(" "+list, " "+arg+":") {
				want = ""
			}
			want, _, _ = strings.Cut(want, " ")
			of(t, sign+"("+src+")", want)
			if want == "" {
				of(t, "b and @"+sign+"("+src+")", "")
			}
		}
	}
}

func TestTwoArgs(t *testing.T) {
	// 9.1: each sign at each two types: in what is not told, either way round, it is wrong.
	numbers := "int,int:int rat,rat:rat num,num:num int,num:int rat,num:rat"
	same := "bool,bool:bool t,t:t u,u:u "
	for signs, list := range map[string]string{
		"and or":    "bool,bool:bool",
		"-> fby":    same + numbers,
		"+ - *":     numbers,
		"/":         "rat,rat:rat num,num:rat rat,num:rat",
		"div mod":   "int,int:int num,num:int int,num:int",
		"< <= > >=": "int,int:bool rat,rat:bool num,num:bool int,num:bool rat,num:bool",
		"== !=":     "bool,bool:bool int,int:bool rat,rat:bool num,num:bool int,num:bool rat,num:bool t,t:bool u,u:bool",
	} {
		results := map[string]string{}
		for _, entry := range strings.Fields(list) {
			args, gives, _ := strings.Cut(entry, ":")
			a, b, _ := strings.Cut(args, ",")
			results[a+","+b], results[b+","+a] = gives, gives
		}
		for a, first := range samples() {
			for b, second := range samples() {
				for _, sign := range strings.Fields(signs) {
					twoArgs(t, first, sign, second, results[a+","+b])
				}
			}
		}
	}
}

func twoArgs(t *testing.T, first, sign, second, want string) {
	t.Helper()
	if want == "" {
		of(t, first+" @"+sign+" "+second, "")
		return
	}
	of(t, first+" "+sign+" "+second, want)
}

func TestThreeArgs(t *testing.T) {
	// 9.1: a choice: its condition is a truth, its others join.
	joined := map[string]string{"int,num": "int", "num,int": "int", "rat,num": "rat", "num,rat": "rat"}
	for a := range samples() {
		joined[a+","+a] = a
	}
	for a, first := range samples() {
		for b, second := range samples() {
			for c, third := range samples() {
				want := joined[b+","+c]
				if a != "bool" {
					want = ""
				}
				of(t, "if "+first+" then "+second+" else "+third, want)
			}
		}
	}
	of(t, "not @if b then i else r", "")
	of(t, "not @if 1 then b else b", "")
	of(t, "if b then @(i, i) else (i, i)", "")
}

func TestCalls(t *testing.T) {
	// 9.1
	of(t, "none()", "int")
	of(t, "two(i, r)", "rat bool")
	of(t, "two(1, 1)", "rat bool")
	of(t, "two(i, 0.5)", "rat bool")
	of(t, "ctor(A)", "u")
	of(t, "none() + 1", "int")
	of(t, "two(none(), rat(none()))", "rat bool")
	for _, wrong := range []string{"two(r, r)", "two(0.5, 1)", "two(i, i)", "two(i)", "two()", "two(i, r, r)", "none(1)", "ctor(d)", "ctor(1)", "ctor(b)", "nobody()", "i()", "ctor()"} {
		of(t, wrong, "")
		of(t, "(i, @"+wrong+")", "")
	}
	of(t, "two(i, @two(i, r))", "")
	of(t, "main(r, 1)", "int t")
	of(t, "ctor(@nobody(A))", "")
}

func TestTuples(t *testing.T) {
	// 9.1: of any Args with one type each.
	of(t, "(i, 1)", "int num")
	of(t, "(b, 0.5, c, none(), i < 1)", "bool rat t int bool")
	of(t, "(i, @(i, i))", "")
	of(t, "(i, @two(i, r))", "")
	of(t, "@(i, i) + 1", "")
	of(t, "1 + @(i, i)", "")
	of(t, "not @two(i, r)", "")
	of(t, "pre @(1, 2)", "")
	of(t, "if @two(i, r) then 1 else 2", "")
	of(t, "up(@(r, r))", "")
	of(t, "@(1, 2) == (1, 2)", "")
}

func TestFirst(t *testing.T) {
	// 9.1: the Args one by one, each with what is wrong in it; then the sign.
	of(t, "(b @+ 1) + (b + 1)", "")
	of(t, "(i, i, @two(i, r), b + 1)", "")
	of(t, "(i, b @+ 1, two(i, r))", "")
	of(t, "b + (b @+ 1)", "")
	of(t, "b + @(1, 2)", "")
	of(t, "two(r, @x)", "")
	of(t, "two(@x, b + 1, i)", "")
	of(t, "nobody(@x)", "")
	of(t, "not (1 @and b)", "")
	of(t, "@(b, 1) + (b + 1)", "")
	of(t, "(b @+ 1, 1) + 1", "")
	of(t, "if 1 then r else @D", "")
	of(t, "if i then @(1, 2) else 1", "")
	of(t, "if b then 1 else if b then r @- i else 1", "")
}

func TestNotRight(t *testing.T) {
	// 9.1: ErrArg, 0, ahead of all else.
	leaf := api.Expr{Kind: api.EVar, Name: "nobody", Pos: 5}
	p := program(t, world)
	for _, e := range []api.Expr{
		{}, {Kind: 12, Pos: 3}, {Kind: api.EBool, Name: "True"}, {Kind: api.ENum, Name: "1."}, {Kind: api.ENum, Name: strings.Repeat("1", api.MaxDigits+1)}, {Kind: api.ECtor, Name: "a"}, {Kind: api.EVar, Name: "A"},
		{Kind: api.EVar, Name: "i", Args: []api.Expr{leaf}}, {Kind: api.EUn, Name: "+", Args: []api.Expr{leaf}}, {Kind: api.EUn, Name: "-"}, {Kind: api.EBin, Name: "up", Args: []api.Expr{leaf, leaf}},
		{Kind: api.EBin, Name: "+", Args: []api.Expr{leaf}}, {Kind: api.EIf, Args: []api.Expr{leaf, leaf}}, {Kind: api.EIf, Name: "if", Args: []api.Expr{leaf, leaf, leaf}}, {Kind: api.EUp}, {Kind: api.ETuple, Args: []api.Expr{leaf}},
		{Kind: api.ECall, Name: "if"}, {Kind: api.ECall, Name: "none", Args: []api.Expr{{}}},
	} {
		for _, whole := range []api.Expr{e, {Kind: api.ETuple, Args: []api.Expr{leaf, e}, Pos: 7}} {
			if l, err, place := types.Of(p, p.Nodes[0], whole); len(l) > 0 || err != api.ErrArg || place != 0 {
				t.Error(whole, l, err, place)
			}
		}
	}
	of(t, strings.Repeat("- ", api.MaxDepth-1)+"1", "num")
	e := api.Expr{Kind: api.ENum, Name: "1"}
	for range api.MaxDepth {
		e = api.Expr{Kind: api.EUn, Name: "-", Args: []api.Expr{e}}
	}
	if l, err, place := types.Of(p, p.Nodes[0], e); len(l) > 0 || err != api.ErrArg || place != 0 {
		t.Error(l, err, place)
	}
}

func TestAnyProgram(t *testing.T) {
	// 9.1: an expression that is right, in what need not be: of each name it is the first one that counts.
	v := func(name, of string) api.Var { return api.Var{Name: name, Type: of} }
	n := api.Node{Name: "main", In: []api.Var{v("x", "rat"), v("x", "int"), v("e", ""), v("e", "int")}, Out: []api.Var{v("x", "bool"), v("y", "int"), v("z", "colour")}, Local: []api.Var{v("y", "bool"), v("l", "bool"), v("e", "rat")}}
	p := api.Program{
		Enums: []api.Enum{{Name: "t", Ctors: []string{"A", "A"}}, {Name: "u", Ctors: []string{"B", "A"}}, {Name: "t", Ctors: []string{"B", "C"}}},
		Nodes: []api.Node{{Name: "f", In: []api.Var{v("a", "int")}, Out: []api.Var{v("b", "u"), v("b", "t")}}, {Name: "f"}, {Name: "g"}, {Name: "g", In: []api.Var{v("a", "int")}}, {Name: "h", In: []api.Var{v("a", "colour")}, Out: []api.Var{v("a", "colour")}}},
	}
	for src, want := range map[string]string{"x": "rat", "last x": "rat", "y": "int", "z": "colour", "l": "bool", "A": "t", "B": "u", "C": "t", "f(y)": "u t", "f(1)": "u t", "g()": "", "h(z)": "colour", "z == h(z)": "bool", "pre z -> h(h(z))": "colour"} {
		e, _, _ := parse.ParseExpr([]byte(src))
		if l, err, place := types.Of(p, n, e); err != api.OK || place != 0 || strings.Join(l, " ") != want {
			t.Error(src, l, err, place)
		}
	}
	for _, src := range []string{"@e", "@last e", "(x, @e)", "@f()", "@g(1)", "@h(x)", "@h(A)", "pre @g()", "x @+ z", "z @== A", "@D", "up(@main())"} {
		text, at := marked(src)
		e, _, _ := parse.ParseExpr([]byte(text))
		if l, err, place := types.Of(p, n, e); len(l) > 0 || err != api.ErrType || place != at {
			t.Error(src, l, err, place)
		}
	}
	if l, err, place := types.Of(api.Program{}, api.Node{}, api.Expr{Kind: api.ENum, Name: "1", Pos: 4}); !slices.Equal(l, []string{"num"}) || err != api.OK || place != 0 {
		t.Error(l, err, place)
	}
}

func TestEnumCalledNum(t *testing.T) {
	// The words on types: an enum that is called num is of the type of numbers.
	p := program(t, "type num = {A}; node f(c: num, i: int, r: rat) returns (d: num) let d = c; tel node main() returns (c: num init 1) let c = last c + f(1, A, 2); tel")
	if err, place := types.Check(p); err != api.OK || place != 0 {
		t.Error(err, place)
	}
	for src, want := range map[string]string{"A": "num", "c": "num", "A + 1": "num", "A / 2": "rat", "A + 0.5": "rat", "A div A": "int", "A < 1": "bool", "f(c, c, c)": "num", "-A": "num"} {
		e, _, _ := parse.ParseExpr([]byte(src))
		if l, err, place := types.Of(p, p.Nodes[1], e); err != api.OK || place != 0 || !slices.Equal(l, []string{want}) {
			t.Error(src, l, err, place)
		}
	}
	for _, src := range []string{"f(0.5, A, A)", "f(1 div 1, A, A)", "A and A"} {
		e, _, _ := parse.ParseExpr([]byte(src))
		if l, err, place := types.Of(p, p.Nodes[1], e); err != api.ErrType || place != e.Pos || len(l) > 0 {
			t.Error(src, l, err, place)
		}
	}
}
