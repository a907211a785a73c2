package show_test

import (
	"math/rand"
	"reflect"
	"strings"
	"testing"

	"foliot/api"
	"foliot/lex"
	"foliot/parse"
	"foliot/show"
)

func leaf(kind int, name string) api.Expr { return api.Expr{Kind: kind, Name: name} }

func of(kind int, name string, args ...api.Expr) api.Expr {
	return api.Expr{Kind: kind, Name: name, Args: args}
}

var (
	x = leaf(api.EVar, "x")
	y = leaf(api.EVar, "y")
	z = leaf(api.EVar, "z")
)

// long is a text of so many bytes.
func long(n int, text string) string { return strings.Repeat(text, n/len(text)+1)[:n] }

// tall is an expression that is so deep.
func tall(n int) api.Expr {
	e := x
	for range n - 1 {
		e = of(api.EUn, "not", e)
	}
	return e
}

func TestRightLeaves(t *testing.T) {
	// 6.1
	most := long(api.MaxDigits, "1234567890")
	for kind, names := range map[int][]string{
		api.EBool: {"true", "false"}, api.ENum: {"0", "007", "1.50", "0.0", most, most + "." + most}, api.ECtor: {"A", "If", "A_b9", long(300, "Z")},
		api.EVar: {"x", "_", "_9", "iff", "true_", "xA"}, api.ELast: {"x", "lasts"}, api.ECall: {"f", "_f"},
	} {
		for _, name := range names {
			shows(t, leaf(kind, name))
		}
	}
	for kind, names := range map[int][]string{
		api.EBool: {"", "True", "x", "A", "1", " true", "not"}, api.ENum: {"", "-1", "1.", ".5", "1.2.3", "x", "1 ", "1/2", "+1", most + "1", "1." + most + "1", most + "1.1", long(api.MaxSource+1, "1")},
		api.ECtor: {"", "a", "_A", "A b", "A.", "Á", "true", "1A"}, api.EVar: {"", "if", "true", "rat", "X", "1x", "x y", "x-", "é", "x ", "up", "x--", "\x00"},
		api.ELast: {"", "last", "last x", "A"}, api.ECall: {"", "f()", "F", "pre"}, 0: {"", "x"}, 12: {"", "x"}, -1: {"x"}, 1 << 40: {"x"},
	} {
		for _, name := range names {
			refuses(t, leaf(kind, name))
		}
	}
}

func TestRightWithin(t *testing.T) {
	// 6.1: each has the Name and as many Args as api says.
	words := strings.Fields("- not pre floor rat + * / div mod < <= > >= == != and or fby -> up if last x A 1 true = ( |")
	ones, twos := " - not pre floor rat ", " + - * / div mod < <= > >= == != and or fby -> "
	for _, word := range append(words, "", "-1", "not ", "- ->", "- not") {
		for n := range 6 {
			args := make([]api.Expr, n)
			for i := range args {
				args[i] = x
			}
			name := word == "x"
			for kind, right := range map[int]bool{
				api.EBool: word == "true" && n == 0, api.ENum: word == "1" && n == 0, api.ECtor: word == "A" && n == 0, api.EVar: name && n == 0, api.ELast: name && n == 0,
				api.EUn: n == 1 && strings.Contains(ones, " "+word+" ") && len(strings.Fields(word)) == 1 && strings.TrimSpace(word) == word, api.EBin: n == 2 && strings.Contains(twos, " "+word+" ") && len(strings.Fields(word)) == 1,
				api.EIf: n == 3 && word == "", api.ECall: name, api.EUp: n == 1 && word == "", api.ETuple: n >= 2 && word == "", 12: false,
			} {
				if e := of(kind, word, args...); right {
					shows(t, e)
					args := append(make([]api.Expr, 0, n), args...)
					for i := range args {
						args[i] = leaf(api.EVar, "if")
						refuses(t, of(kind, word, args...))
						args[i] = x
					}
				} else {
					refuses(t, e)
				}
			}
		}
	}
}

func TestRightDepth(t *testing.T) {
	// 6.1: MaxDepth is allowed.
	shows(t, tall(api.MaxDepth))
	for _, n := range []int{api.MaxDepth + 1, api.MaxDepth + 2, 9990} {
		refuses(t, tall(n))
		refuses(t, of(api.ETuple, "", x, tall(n-1)))
		refusesAll(t, withEq(api.Eq{Kind: api.QDef, Names: []string{"x"}, Args: []api.Expr{tall(n - 1)}}))
	}
	in := func(n int, inner api.Eq) api.Eq { // so many equations around one
		for i := range n {
			switch block := []api.Eq{inner}; i % 3 {
			case 0:
				inner = api.Eq{Kind: api.QReset, Args: []api.Expr{x}, Blocks: [][]api.Eq{block}}
			case 1:
				inner = api.Eq{Kind: api.QPresent, Args: []api.Expr{x}, Blocks: [][]api.Eq{nil, block}}
			case 2:
				inner = api.Eq{Kind: api.QAuto, States: []api.State{{Name: "A", Eqs: block}}}
			}
		}
		return inner
	}
	for n := range api.MaxDepth {
		deep := api.MaxDepth - 1 - n
		inner := []api.Eq{{Kind: api.QDef, Names: []string{"x"}, Args: []api.Expr{tall(max(1, deep))}}, {Kind: api.QDer, Names: []string{"x"}, Args: []api.Expr{x}, Init: []api.Expr{tall(max(1, deep))}},
			{Kind: api.QDer, Names: []string{"x"}, Args: []api.Expr{x}, Again: []api.Expr{x, tall(max(1, deep))}}, {Kind: api.QAuto, States: []api.State{{Name: "A", Trans: []api.Trans{{Cond: tall(max(1, deep)), To: "A"}}}}}}
		for _, q := range inner {
			if deep < 1 {
				refusesAll(t, withEq(in(n, q)))
				continue
			}
			p := withEq(in(n, q))
			if q, err, _ := parse.Parse([]byte(showsAll(t, p))); err != api.OK || !reflect.DeepEqual(q, bareOf(p, q)) {
				t.Fatal(err)
			}
			refusesAll(t, withEq(in(n+1, q)))
		}
	}
	refusesAll(t, withEq(in(9900, inner())))
}

// bareOf tells q, if it is p but for places; else p.
func bareOf(p, q api.Program) api.Program {
	if reflect.DeepEqual(bare(p), bare(q)) {
		return q
	}
	return p
}

func inner() api.Eq {
	return api.Eq{Kind: api.QDef, Names: []string{"x"}, Args: []api.Expr{x}}
}

// withEq is a program of one node with some equations.
func withEq(l ...api.Eq) api.Program {
	n := aNode()
	n.Eqs = l
	return api.Program{Nodes: []api.Node{n}}
}

func aNode() api.Node {
	return api.Node{Name: "f", Out: []api.Var{{Name: "x", Type: "int"}}}
}

func TestRightPrograms(t *testing.T) {
	// 6.1
	showsAll(t, api.Program{})
	showsAll(t, api.Program{Nodes: []api.Node{aNode(), aNode()}, Enums: []api.Enum{{Name: "t", Ctors: []string{"A", "A"}}, {Name: "t", Ctors: []string{"A"}}}})
	for _, e := range []api.Enum{{}, {Name: "t"}, {Ctors: []string{"A"}}, {Name: "T", Ctors: []string{"A"}}, {Name: "rat", Ctors: []string{"A"}}, {Name: "t", Ctors: []string{"a"}}, {Name: "t", Ctors: []string{"A", ""}}, {Name: "t", Ctors: []string{"A, B"}}} {
		refusesAll(t, api.Program{Enums: []api.Enum{e}})
		refusesAll(t, api.Program{Enums: []api.Enum{{Name: "t", Ctors: []string{"A"}}, e}, Nodes: []api.Node{aNode()}})
	}
	one, minus := leaf(api.ENum, "1"), of(api.EUn, "-", leaf(api.ENum, "1.5"))
	most := long(api.MaxDigits, "7")
	v := func(name, kind string, init ...api.Expr) api.Var { return api.Var{Name: name, Type: kind, Init: init} }
	for _, right := range []api.Var{v("x", "bool", leaf(api.EBool, "true")), v("x", "int", one), v("x", "rat", minus), v("x", "t", leaf(api.ECtor, "A")), v("_", "_"), v("x", "x"), v("x", "rat", leaf(api.ENum, most)), v("x", "rat", of(api.EUn, "-", leaf(api.ENum, most+"."+most)))} {
		for at := range 3 {
			p, ok := api.Program{Nodes: []api.Node{aNode()}}, true
			switch at {
			case 0:
				p.Nodes[0].Out = []api.Var{right}
			case 1:
				p.Nodes[0].Local = []api.Var{v("y", "int"), right}
			case 2:
				p.Nodes[0].In, ok = []api.Var{v("y", "int"), right}, len(right.Init) == 0
			}
			if ok {
				showsAll(t, p)
			} else {
				refusesAll(t, p)
			}
		}
	}
	for _, wrong := range []api.Var{v("", "int"), v("X", "int"), v("if", "int"), v("int", "int"), v("x", ""), v("x", "A"), v("x", "node"), v("x", "true"), v("x", "1"), v("x", "int init 1"), v("x", "int", one, one), v("x", "int", x),
		v("x", "int", of(api.EUn, "-", x)), v("x", "int", of(api.EUn, "-", minus)), v("x", "int", of(api.EUn, "not", one)), v("x", "int", of(api.EUn, "-")), v("x", "int", of(api.EUn, "-", one, one)), v("x", "int", leaf(api.EBool, "x")),
		v("x", "int", leaf(api.ENum, "-1")), v("x", "int", leaf(api.ENum, most+"1")), v("x", "int", of(api.EUn, "-", leaf(api.ENum, "1."+most+"1"))), v("x", "int", leaf(api.ECtor, "a")), v("x", "int", of(api.ECtor, "A", one)), v("x", "int", of(api.EUn, "-", of(api.ENum, "1", one))),
		v("x", "int", of(api.EBin, "-", one, one)), v("x", "int", leaf(api.ELast, "x")), v("x", "int", leaf(0, "1")), v("x", "int", tall(9990)), v("x", "int", of(api.EUn, "-", of(api.ENum, "1", tall(9990))))} {
		p := api.Program{Nodes: []api.Node{aNode()}}
		p.Nodes[0].Out = []api.Var{wrong}
		refusesAll(t, p)
		p.Nodes[0].Out = []api.Var{v("x", "int"), wrong}
		refusesAll(t, p)
		p.Nodes[0].Out, p.Nodes[0].Local = aNode().Out, []api.Var{v("x", "int"), wrong}
		refusesAll(t, p)
		p.Nodes[0].Local, p.Nodes[0].In = nil, []api.Var{wrong}
		refusesAll(t, p)
	}
	for _, name := range []string{"", "F", "node", "f g", "1"} {
		n := aNode()
		n.Name = name
		refusesAll(t, api.Program{Nodes: []api.Node{aNode(), n}})
	}
	n := aNode()
	n.Out = nil
	refusesAll(t, api.Program{Nodes: []api.Node{n}})
	n.In, n.Local = aNode().Out, aNode().Out
	refusesAll(t, api.Program{Nodes: []api.Node{n}})
}

func TestRightEquations(t *testing.T) {
	// 6.1: equations have what api says of their Kind, and nothing else.
	names, exprs := []string{"x", "y", "z"}, []api.Expr{x, y, z}
	states := []api.State{{Name: "A"}, {Name: "B"}}
	n := 0
	for kind := range 8 {
		for part := range 4 * 4 * 4 * 4 * 4 * 3 {
			a, b, c, d, e, f := part%4, part/4%4, part/16%4, part/64%4, part/256%4, part/1024
			right := map[int]bool{
				api.QDef: a >= 1 && b == 1 && c+d+e+f == 0, api.QDer: a == 1 && b == 1 && c <= 1 && (d == 0 || d == 2) && e+f == 0, api.QReset: b == 1 && e == 1 && a+c+d+f == 0,
				api.QPresent: b == 1 && e == 2 && a+c+d+f == 0, api.QAuto: f >= 1 && a+b+c+d+e == 0,
			}[kind]
			q := api.Eq{Kind: kind, Names: names[:a], Args: exprs[:b], Init: exprs[:c], Again: exprs[:d], Blocks: make([][]api.Eq, e), States: states[:f]}
			if show.Right(withEq(q)) != right {
				t.Fatalf("%v", q)
			}
			if right {
				n++
				showsAll(t, withEq(q, inner()))
			} else if part%16 == 5 {
				refusesAll(t, withEq(inner(), q))
				refusesAll(t, withEq(api.Eq{Kind: api.QReset, Args: exprs[:1], Blocks: [][]api.Eq{{inner(), q}}}))
				refusesAll(t, withEq(api.Eq{Kind: api.QAuto, States: []api.State{{Name: "A"}, {Name: "A", Eqs: []api.Eq{q}}}}))
			}
		}
	}
	if n != 3+4+1+1+2 {
		t.Error(n)
	}
	wrong := leaf(api.EVar, "X")
	for _, q := range []api.Eq{
		{Kind: -1, Names: names[:1], Args: exprs[:1]}, {Kind: 1 << 40}, {Kind: api.QDef, Names: []string{"X"}, Args: exprs[:1]}, {Kind: api.QDef, Names: []string{"x", "if"}, Args: exprs[:1]}, {Kind: api.QDef, Names: names, Args: []api.Expr{wrong}},
		{Kind: api.QDer, Names: []string{""}, Args: exprs[:1]}, {Kind: api.QDer, Names: names[:1], Args: []api.Expr{wrong}}, {Kind: api.QDer, Names: names[:1], Args: exprs[:1], Init: []api.Expr{wrong}}, {Kind: api.QDer, Names: names[:1], Args: exprs[:1], Again: []api.Expr{x, wrong}},
		{Kind: api.QDer, Names: names[:1], Args: exprs[:1], Again: []api.Expr{wrong, x}}, {Kind: api.QReset, Args: []api.Expr{wrong}, Blocks: [][]api.Eq{nil}}, {Kind: api.QPresent, Args: []api.Expr{wrong}, Blocks: [][]api.Eq{nil, nil}},
		{Kind: api.QPresent, Args: exprs[:1], Blocks: [][]api.Eq{nil, {{}}}}, {Kind: api.QPresent, Args: exprs[:1], Blocks: [][]api.Eq{{{}}, nil}}, {Kind: api.QReset, Args: exprs[:1], Blocks: [][]api.Eq{{{}}}},
		{Kind: api.QAuto, States: []api.State{{Name: "A"}, {Name: "a"}}}, {Kind: api.QAuto, States: make([]api.State, 1)}, {Kind: api.QAuto, States: []api.State{{Name: "A", Eqs: make([]api.Eq, 1)}}},
		{Kind: api.QAuto, States: []api.State{{Name: "A", Trans: []api.Trans{{Cond: x, To: "A"}, {Cond: x, To: "a"}}}}}, {Kind: api.QAuto, States: []api.State{{Name: "A", Trans: []api.Trans{{Cond: wrong, To: "A"}}}}}, {Kind: api.QAuto, States: []api.State{{Name: "A", Trans: []api.Trans{{To: "A"}}}}},
	} {
		refusesAll(t, withEq(inner(), q))
	}
}

func TestLongNames(t *testing.T) {
	// 6.1: a program's length does not count.
	name, ctor := long(api.MaxSource*5/2+1, "if_9"), "C"+long(api.MaxSource, "type")
	if shows(t, leaf(api.EVar, name)) != name || shows(t, of(api.ECall, name, leaf(api.ECtor, ctor))) != name+"("+ctor+")" {
		t.Error("a long name is told otherwise")
	}
	shows(t, leaf(api.EVar, "i"+long(api.MaxSource-1, "x")+"f"))
	for _, at := range []int{0, 1, api.MaxSource / 2, api.MaxSource - 1, api.MaxSource, len(name) / 2, len(name) - 1} {
		refuses(t, leaf(api.EVar, name[:at]+" "+name[at:]))
		refuses(t, leaf(api.EVar, name[:at]+"é"+name[at:]))
	}
	refuses(t, leaf(api.EVar, ctor))
	refuses(t, leaf(api.ECtor, name))
	refuses(t, leaf(api.ENum, long(api.MaxSource+1, "0")))
	l := make([]api.Eq, api.MaxSource/4)
	for i := range l {
		l[i] = inner()
	}
	text := showsAll(t, withEq(l...))
	if _, err, _ := parse.Parse([]byte(text)); err != api.ErrLong || text != told(withEq(l...)) {
		t.Error(err)
	}
}

func TestShowExpr(t *testing.T) {
	// 6.2
	for src, want := range map[string]string{
		"1 - 2 * x": "(1 - (2 * x))", "if a then b else pre c": "(if a then b else (pre c))", "true": "true", " 007.50 ": "007.50", "A": "A", "(x)": "x", "last  x": "last x", "- 1": "(- 1)", "- - x": "(- (- x))", "not (x)": "(not x)",
		"pre last x": "(pre last x)", "floor(x + 1)": "floor((x + 1))", "rat ( x )": "rat(x)", "up(x-1)": "up((x - 1))", "up((x))": "up(x)", "a->b fby c": "(a -> (b fby c))", "a mod b div c": "((a mod b) div c)", "a<=b and c!=d or e": "(((a <= b) and (c != d)) or e)",
		"f()": "f()", "f(x)": "f(x)", "f(x,(y,z),g())": "f(x, (y, z), g())", "(a,b)": "(a, b)", "((a,b),c)": "((a, b), c)", "if a then b else c -> d": "(if a then b else (c -> d))", "if if a then b else c then d else e": "(if (if a then b else c) then d else e)",
	} {
		e, err, _ := parse.ParseExpr([]byte(src))
		if text := shows(t, e); err != api.OK || text != want {
			t.Errorf("%s: %s, not %s", src, text, want)
		}
	}
	for seed := range int64(3000) {
		e := newMaker(seed, int(seed%60)).expr(api.MaxDepth)
		text := shows(t, e)
		back, err, _ := parse.ParseExpr([]byte(text))
		if text != toldExpr(e) || err != api.OK || !reflect.DeepEqual(bareExprs([]api.Expr{back}), bareExprs([]api.Expr{e})) {
			t.Fatal(text)
		}
	}
}

func TestShow(t *testing.T) {
	// 6.3
	for src, want := range map[string]string{
		"": "",
		"node f()returns(x:int)let tel type t={A};type u={A,B,C};hybrid g(a:t,b:bool)returns(x:rat init -1.5,y:u init B)var z:bool init true;let tel": "type t = { A };\ntype u = { A, B, C };\nnode f() returns (x: int)\nlet\ntel\n" +
			"hybrid g(a: t, b: bool) returns (x: rat init -1.5, y: u init B)\nvar\n  z: bool init true;\nlet\ntel\n",
		"node f(a:int)returns(x:int)var y:int init - 1;z:rat init 0;let x=-1;(x,y,z)=(a,b);tel": "node f(a: int) returns (x: int)\nvar\n  y: int init -1;\n  z: rat init 0;\nlet\n  x = (- 1);\n  (x, y, z) = (a, b);\ntel\n",
		"hybrid f()returns(x:rat)let der x=1;der x=a+b init -1;der x=1 reset 2 when c or d;der x=1 init 0 reset 2 when c;tel": "hybrid f() returns (x: rat)\nlet\n  der x = 1;\n  der x = (a + b) init (- 1);\n  der x = 1 reset 2 when (c or d);\n" +
			"  der x = 1 init 0 reset 2 when c;\ntel\n",
		"node f()returns(x:rat)let reset{}every a;reset{x=1;reset{y=2;}every b;}every c->d;present a then{}else{};present a<b then{x=1;y=2;}else{reset{}every c;};tel": "node f() returns (x: rat)\nlet\n  reset {\n  } every a;\n" +
			"  reset {\n    x = 1;\n    reset {\n      y = 2;\n    } every b;\n  } every (c -> d);\n  present a then {\n  } else {\n  };\n  present (a < b) then {\n    x = 1;\n    y = 2;\n  } else {\n    reset {\n    } every c;\n  };\ntel\n",
		"node f()returns(x:rat)let automaton state A{}end;automaton state A{x=1;automaton state C{}until a continue C end;}until a or b then B until c continue A state B{}end;tel": "node f() returns (x: rat)\nlet\n  automaton\n    state A {\n    }\n  end;\n  automaton\n" +
			"    state A {\n      x = 1;\n      automaton\n        state C {\n        }\n          until a continue C\n      end;\n    }\n      until (a or b) then B\n      until c continue A\n    state B {\n    }\n  end;\ntel\n",
	} {
		p, err, place := parse.Parse([]byte(src))
		if text := showsAll(t, p); err != api.OK || text != want {
			t.Errorf("%v %d: %s, not %s", err, place, text, want)
		}
	}
}

func TestShownProgramsAreParsed(t *testing.T) {
	// 6.3, 6.4: against a plain printer; the text is parsed as that program, places aside.
	texts := map[string]api.Program{}
	for seed := range int64(2500) {
		p := newMaker(seed, int(seed%120)).program()
		text := showsAll(t, p)
		if text != told(p) {
			t.Fatalf("%s\n%s", text, told(p))
		}
		q, err, place := parse.Parse([]byte(text))
		if err != api.OK || !reflect.DeepEqual(bare(p), bare(q)) {
			t.Fatal(err, place, text)
		}
		if r, found := texts[text]; found && !reflect.DeepEqual(r, bare(p)) {
			t.Fatal("two programs with one text: " + text)
		}
		texts[text] = bare(p)
		if showsAll(t, q) != text { // each program that is parsed is right
			t.Fatal(text)
		}
	}
}

func TestRightIsWhatASourceMaySay(t *testing.T) {
	// 6.1, 6.4: of trees in which something is changed, those are right that their text is parsed as.
	right, wrong := 0, 0
	for seed := range int64(12000) {
		p := newMaker(seed, int(seed%40)).program()
		s := &spoiler{r: rand.New(rand.NewSource(seed))}
		s.steps = 1 + s.r.Intn(60)
		s.program(&p)
		q, err, _ := parse.Parse([]byte(told(p)))
		said := err == api.OK && reflect.DeepEqual(bare(p), bare(q))
		if !s.done {
			continue
		}
		if said {
			right++
			if showsAll(t, p) != told(p) {
				t.Fatal(told(p))
			}
		} else {
			wrong++
			refusesAll(t, p)
		}
	}
	if right < 500 || wrong < 3000 {
		t.Error(right, wrong)
	}
	for seed := range int64(6000) {
		e := newMaker(seed, int(seed%30)).expr(api.MaxDepth)
		s := &spoiler{r: rand.New(rand.NewSource(seed))}
		s.steps = 1 + s.r.Intn(20)
		s.expr(&e)
		back, err, _ := parse.ParseExpr([]byte(toldExpr(e)))
		if err == api.OK && reflect.DeepEqual(bareExprs([]api.Expr{e}), bareExprs([]api.Expr{back})) {
			shows(t, e)
		} else {
			refuses(t, e)
		}
	}
}

func TestPlacesDoNotCount(t *testing.T) {
	// 6.1: and neither does whether a list of nothing is nil.
	for seed := range int64(200) {
		p := newMaker(seed, 60).program()
		if showsAll(t, p) != showsAll(t, bare(p)) {
			t.Fatal(p)
		}
	}
	none, no := []api.Expr{}, []api.Eq{}
	q := api.Eq{Kind: api.QReset, Names: []string{}, Args: []api.Expr{of(api.ECall, "f", none...)}, Init: none, Again: none, Blocks: [][]api.Eq{no}, States: []api.State{}}
	want := "node f() returns (x: int)\nlet\n  reset {\n  } every f();\ntel\n"
	p := withEq(q)
	p.Enums, p.Nodes[0].In, p.Nodes[0].Local, p.Nodes[0].Out[0].Init = []api.Enum{}, []api.Var{}, []api.Var{}, none
	if text := showsAll(t, p); text != want {
		t.Error(text)
	}
}

func TestTextsAreTokensWithBlanks(t *testing.T) {
	// 6.3: each line has a byte 10 behind it, and no blank stands at a line's end or is a tab.
	for seed := range int64(300) {
		text := showsAll(t, newMaker(seed, 80).program())
		if _, err, _ := lex.Tokens([]byte(text)); err != api.OK || strings.Contains(text, " \n") || strings.Contains(text, "\n\n") || text != "" && !strings.HasSuffix(text, "\n") {
			t.Fatal(err, text)
		}
	}
}

func TestMemory(t *testing.T) {
	// R4: trees are not changed, and texts are new memory.
	for seed := range int64(300) {
		p := newMaker(seed, 80).program()
		again := newMaker(seed, 80).program()
		a, _ := show.Show(p)
		b, _ := show.Show(p)
		if !reflect.DeepEqual(p, again) {
			t.Fatal("a program was changed")
		}
		text := string(b)
		clear(a[:cap(a)])
		if string(b) != text {
			t.Fatal("two texts are one")
		}
	}
	e := of(api.EBin, "+", x, of(api.ECall, "f", y, z))
	a, _ := show.ShowExpr(e)
	b, _ := show.ShowExpr(e)
	clear(a)
	if string(b) != "(x + f(y, z))" || !reflect.DeepEqual(e, of(api.EBin, "+", x, of(api.ECall, "f", y, z))) {
		t.Error(string(b), e)
	}
}
