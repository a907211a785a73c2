package names_test

import (
	"slices"
	"strings"
	"testing"

	"foliot/api"
	"foliot/names"
	"foliot/parse"
)

const (
	// Nodes to stand beside the one that a test is about.
	main0 = "node main() returns (x: rat) let x = 1; tel "
	oneIn = "node f(a: rat) returns (y: rat) let y = a; tel "
)

func TestExamples(t *testing.T) {
	// 8.1: the chapter's own.
	tells(t, "node main() returns (x: rat) let x = 1; @x = 2; tel", api.ErrTwice)
	tells(t, "node main(c: rat) returns (x: rat) let @present c then { x = 1; } else { }; tel", api.ErrBranch)
	tells(t, "node main(c: rat) returns (x: rat init 0) let present c then { x = 1; } else { }; tel", api.OK)
	tells(t, "@node f(a: rat) returns (x: rat) let x = g(a); tel node g(a: rat) returns (x: rat) let x = f(a); tel "+main0, api.ErrRound)
}

func TestNotRight(t *testing.T) {
	// 8.1: ErrArg ahead of all else.
	p, _ := marked(t, "type t = {A}; type t = {A}; "+main0)
	for _, e := range []api.Enum{{}, {Name: "u"}, {Name: "u", Ctors: []string{"a"}}, {Name: "t", Ctors: []string{"A", ""}, Pos: 7}} {
		if err, place := names.Check(api.Program{Enums: append(slices.Clone(p.Enums), e), Nodes: p.Nodes}); err != api.ErrArg || place != 0 {
			t.Error(e, err, place)
		}
	}
	for _, q := range []api.Eq{{}, {Kind: 6}, {Kind: api.QDef, Names: []string{"x"}}, {Kind: api.QDer}, {Kind: api.QReset}, {Kind: api.QPresent}, {Kind: api.QAuto, Pos: 3}} {
		n := p.Nodes[0]
		n.Eqs = append(slices.Clone(n.Eqs), q)
		if err, place := names.Check(api.Program{Nodes: []api.Node{n}}); err != api.ErrArg || place != 0 {
			t.Error(q, err, place)
		}
	}
	if err, place := names.Check(api.Program{}); err != api.ErrMain || place != 0 { // a right one
		t.Error(err, place)
	}
}

func TestEnums(t *testing.T) {
	// 8.1
	tells(t, "type t = {A}; type u = {B}; "+main0, api.OK)
	tells(t, "type main = {A}; type x = {Main}; "+main0, api.OK) // each name is one of its kind
	tells(t, "type t = {A}; @type t = {B}; "+main0, api.ErrTwice)
	tells(t, main0+"type t = {A}; type u = {B}; type v = {C, D}; @type u = {E}; ", api.ErrTwice)
	tells(t, "@type t = {A, B, A}; "+main0, api.ErrTwice)
	tells(t, "type t = {A, B}; type u = {C}; @type v = {D, B}; "+main0, api.ErrTwice)
	tells(t, "@type t = {A, A}; type t = {B}; ", api.ErrTwice) // enum by enum, not what is asked of them one by one
	tells(t, "type t = {A}; @type t = {B}; type u = {C, C}; ", api.ErrTwice)
	tells(t, "type t = {A}; @type u = {A}; type t = {B}; ", api.ErrTwice)
	tells(t, main0+main0+"@type t = {A, A}; ", api.ErrTwice) // ahead of all nodes
	tells(t, "node g(a: q, a: rat) returns (y: rat) let tel type t = {A}; @type t = {B};", api.ErrTwice)
}

func TestNodesTwice(t *testing.T) {
	// 8.1
	tells(t, main0+"@"+main0, api.ErrTwice)
	tells(t, oneIn+main0+"node g() returns (y: rat) let y = 1; tel @hybrid f() returns (y: rat) let y = 1; tel "+oneIn+main0, api.ErrTwice)
	tells(t, "node g(a: q, a: rat) returns (y: rat) let z = 1; tel "+main0+"@"+main0, api.ErrTwice) // ahead of all that is in nodes
	tells(t, "node t() returns (main: rat) let main = 1; tel type t = {A}; "+main0, api.OK)
}

func TestVariables(t *testing.T) {
	// 8.1
	for _, c := range []struct {
		head string
		want api.Errno
	}{
		{"(a: rat, @a: rat) returns (x: rat)", api.ErrTwice},
		{"(a: rat, b: rat) returns (x: rat, @b: rat)", api.ErrTwice},
		{"(a: rat) returns (x: rat, y: rat, @x: rat)", api.ErrTwice},
		{"(a: rat) returns (x: rat) var y: rat; @a: rat;", api.ErrTwice},
		{"(a: rat) returns (x: rat) var y: rat; @x: rat;", api.ErrTwice},
		{"(a: rat) returns (x: rat) var y: rat; @y: rat; y: rat;", api.ErrTwice},
		{"(@a: q) returns (x: rat)", api.ErrName},
		{"(a: rat) returns (x: rat, @y: num)", api.ErrName},
		{"(a: rat) returns (x: rat) var @y: main;", api.ErrName}, // a node is no type
		{"(a: rat) returns (x: rat) var @y: a;", api.ErrName},
		{"(a: t) returns (x: rat init @Z)", api.ErrName},
		{"(a: t) returns (x: rat init B) var y: int init 1; z: bool init @T;", api.ErrName},
		{"(a: rat, @a: q) returns (x: q)", api.ErrTwice}, // one by one, what is asked of each in this order
		{"(a: rat) returns (@a: q init Z)", api.ErrTwice},
		{"(a: rat) returns (@x: q init Z, x: rat)", api.ErrName},
		{"(a: rat) returns (x: rat init @Z, a: rat)", api.ErrName},
		{"(a: rat) returns (x: rat init @Z, y: q)", api.ErrName},
		{"(@a: q, a: rat) returns (x: rat)", api.ErrName},
		{"(a: rat) returns (x: rat, @a: rat) var a: rat; z: q;", api.ErrTwice},
	} {
		for _, body := range []string{"", "x = none;", "v = 1; automaton state A { } until true then B state A { } end;"} { // ahead of all equations
			tells(t, "type t = {A, B}; node main"+c.head+" let "+body+" tel", c.want)
			tells(t, "node main"+c.head+" let "+body+" tel node h(a: q) returns (x: rat) let tel type t = {A, B};", c.want) // ahead of the next node
		}
	}
	for _, v := range []string{"x: bool init 1", "x: int init true", "x: rat init -1.5", "x: t init B", "x: u init A", "t: t init A", "main: rat", "f: rat"} {
		name, _, _ := strings.Cut(v, ":")
		tells(t, oneIn+"node main() returns ("+v+") let "+name+" = 1; tel type t = {A, B}; type u = {C};", api.OK)
	}
}

func TestDefined(t *testing.T) {
	// 8.1: of QDef and QDer first, name by name, what is none of the node's own.
	for _, eqs := range []string{
		"@v = 1;", "@q = 1;", "@f = 1;", "@main = v;", "@der v = 1 init 0;", "@der q = 1;", "x = 1; @w = 1;", "@(x, v) = (q, q);", "@(v, x) = 1;", "(x, xi) = 1; @(y, yi, q) = 1;", "@v = q;", "@der q = q init Z;",
		"reset { x = 1; @v = 1; } every q;", "present true then { x = 1; } else { @v = 1; };", "automaton state A { @v = 1; } state B { q = 1; } end;", "present true then { @v = Z; } else { v = 1; };",
		"x = 1; x = 2; @v = 1;", // what is told is asked behind all equations
	} {
		within(t, eqs, api.ErrDef)
	}
	within(t, "x = @q; v = 1;", api.ErrName)
	within(t, "reset { x = @q; } every v; v = 1;", api.ErrName)
	within(t, "x = 1; xi = 2; (y, z) = 1; (yi, zi) = 3;", api.OK)
}

func TestStates(t *testing.T) {
	// 8.1: of QAuto first its states' names; behind each condition where its transition goes.
	within(t, whole+"x = 1; xi = 1; automaton state A { } until v then B state B { } until w continue B until v then A end;", api.OK)
	within(t, whole+"x = 1; xi = 1; automaton state A { automaton state A { } until v then B state B { } until v then A end; } until v then A end; automaton state A { } end;", api.OK) // states of another one
	within(t, "automaton state A { } @state A { } end;", api.ErrTwice)
	within(t, "automaton state A { v = 1; } until q then Z state B { } state C { } @state B { q = 1; } state A { } end;", api.ErrTwice)
	within(t, "automaton state A { automaton state C { } state C { } end; } state B { } @state B { } end;", api.ErrTwice)
	within(t, "automaton state A { automaton state C { } @state C { } end; } state B { } end;", api.ErrTwice)
	within(t, "x = @q; automaton state A { } state A { } end;", api.ErrName)
	within(t, "automaton state A { } @until v then B end;", api.ErrName)
	within(t, "automaton state A { } until v then A @until v continue C until v then D state B { } until v then E end;", api.ErrName)
	within(t, "automaton state A { automaton state C { } @until v then A end; } until v then Z end;", api.ErrName) // of this automaton
	within(t, "automaton state A { automaton state C { } until v then C end; } @until v then C end;", api.ErrName) // likewise
	within(t, "automaton state A { } until @q then Z end;", api.ErrName)                                           // behind its condition
	within(t, "automaton state A { } @until v then Z until q then A end;", api.ErrName)                            // ahead of the next one
	within(t, "automaton state A { } until v then A state B { x = @q; } until v then Z end;", api.ErrName)         // behind its equations
	within(t, "automaton state A { } @until v then Z state B { x = q; } end;", api.ErrName)                        // ahead of the next state's
	within(t, "automaton state A { @v = v; } until v then Z end; x = q;", api.ErrDef)
	within(t, "x = @last v; automaton state A { } until v then Z end;", api.ErrDef)
}

func TestExpressions(t *testing.T) {
	// 8.1: what each name may be.
	for e, want := range map[string]api.Errno{
		"v": api.OK, "x": api.OK, "xi": api.OK, "y": api.OK, "zi": api.OK, "@q": api.ErrName, "@f": api.ErrName, "@a": api.ErrName, "@t": api.ErrName,
		"A": api.OK, "B": api.OK, "@C": api.ErrName,
		"f(v, w)": api.OK, "g()": api.OK, "@h(v)": api.ErrName, "@x(v, w)": api.ErrName, "@h(q)": api.ErrName, "@f()": api.ErrCall, "@f(v)": api.ErrCall, "@f(v, v, v)": api.ErrCall, "@g(v)": api.ErrCall, "@f((v, w))": api.ErrCall,
		"@f(q)": api.ErrCall, "f(v, @q)": api.ErrName, "f(@g(1), q)": api.ErrCall, "f(g(), @h())": api.ErrName, "f(f(v, w), @f(v))": api.ErrCall, "@g(h())": api.ErrCall, "f(@q, C)": api.ErrName,
		"last xi": api.OK, "last yi": api.OK, "last zi": api.OK, "@last x": api.ErrDef, "@last y": api.ErrDef, "@last v": api.ErrDef, "@last q": api.ErrDef, "@last f": api.ErrDef, "@last a": api.ErrDef,
		"- @q": api.ErrName, "not @q": api.ErrName, "pre @q": api.ErrName, "floor(@q)": api.ErrName, "rat(@C)": api.ErrName, "up(@q)": api.ErrName, "up(up(@last v))": api.ErrDef,
		"v + @q": api.ErrName, "@q + C": api.ErrName, "@C and last v": api.ErrName, "@last v -> q": api.ErrDef, "1 fby @C": api.ErrName, "1 - v * @q / C": api.ErrName,
		"if @q then C else last v": api.ErrName, "if v then @C else last v": api.ErrName, "if v then 1 else @last v": api.ErrDef, "(v, @q, C)": api.ErrName, "(@last v, q)": api.ErrDef, "1.5 + 2": api.OK, "true or false": api.OK,
	} {
		for _, eqs := range []string{"x = # ; xi = 1;", "der x = # init 0; xi = 1;", "der x = 1 init # ; xi = 1;", "der x = 1 init 0 reset # when v; xi = 1;", "der x = 1 init 0 reset v when # ; xi = 1;", "reset { x = 1; } every # ; xi = 1;",
			"reset { x = # ; } every v; xi = 1;", "present # then { x = 1; } else { x = 2; }; xi = 1;", "present v then { x = # ; } else { x = 2; }; xi = 1;", "present v then { x = 1; } else { x = # ; }; xi = 1;",
			"automaton state A { x = 1; } until # then A end; xi = 1;", "automaton state A { x = 1; } until v then A state B { x = # ; } end; xi = 1;", "automaton state A { x = 1; } until v then A until # continue A end; xi = 1;"} {
			within(t, strings.Replace(eqs, "#", e, 1)+whole, want)
		}
	}
	tells(t, "node main() returns (x: rat) let x = g(); tel node g() returns (x: rat) let x = @f(1, 1); tel "+oneIn, api.ErrCall)
	tells(t, "node main() returns (x: rat init 1) let x = f(A); tel "+oneIn+"type t = {A};", api.OK)                                             // whatever stands behind
	tells(t, "node main() returns (x: rat) let x = 1; tel node g() returns (y: rat) let y = @x; tel", api.ErrName)                               // another node's
	tells(t, "node main() returns (x: rat init 1) let x = 1; tel node g() returns (x: rat) let x = @last x; tel", api.ErrDef)                    // likewise
	tells(t, "node main() returns (x: rat) let x = @g(1, 2); tel node g(v: rat) returns (x: rat, y: rat) let (x, y) = (1, 2); tel", api.ErrCall) // of its In, not its Out
	tells(t, "node g(a: rat) returns (y: rat init 1) let y = last y; tel node main() returns (x: rat) let x = g(@q); tel", api.ErrName)          // a node ahead is right
	tells(t, "node g(a: rat) returns (y: rat init 1) let y = @last a; tel node main() returns (x: q) let x = g(q); tel", api.ErrDef)             // and one that is not goes ahead
}

func TestReadOrder(t *testing.T) {
	// 8.1: equations in the order in which they are read.
	for _, eqs := range []string{
		"x = @q1; x = q2;", "reset { x = @q1; } every q2;", "reset { } every @q2; x = q1;", "present @q1 then { x = q2; } else { x = q3; };", "present v then { x = @q2; } else { x = q3; }; x = q4;", "present v then { } else { x = @q3; }; x = q4;",
		"der x = @q1 init q2 reset q3 when q4;", "der x = 1 init @q2 reset q3 when q4;", "der x = 1 reset @q3 when q4;", "der x = 1 init 1 reset 1 when @q4; x = q5;",
		"automaton state A { x = @q1; } until q2 then A state B { x = q3; } until q4 then A end;", "automaton state A { } until @q2 then A until q3 then A state B { x = q4; } end;", "automaton state A { } until v then A until @q3 then A state B { x = q4; } end;", "automaton state A { } until v then A state B { x = @q4; } until q5 then B end; x = q6;",
	} {
		within(t, eqs, api.ErrName)
	}
	// What is an expression by its place is asked where it is read, not where it stands.
	e := func(name string, at int) []api.Expr { return []api.Expr{{Kind: api.EVar, Name: name, Pos: at}} }
	n := api.Node{Name: "main", Out: []api.Var{{Name: "x", Type: "rat", Pos: -3}}, Eqs: []api.Eq{{Kind: api.QReset, Args: e("a", 1), Blocks: [][]api.Eq{{{Kind: api.QDer, Names: []string{"x"}, Args: e("x", 9), Init: e("b", 8), Again: append(e("c", 7), e("d", 6)...)}}}}}}
	if err, place := names.Check(api.Program{Nodes: []api.Node{n}}); err != api.ErrName || place != 8 {
		t.Error(err, place)
	}
	n.Eqs = nil
	if err, place := names.Check(api.Program{Nodes: []api.Node{n}}); err != api.ErrDef || place != -3 {
		t.Error(err, place)
	}
}

func TestToldByRows(t *testing.T) {
	// 8.1: what is told already is told by the Pos of the equation that tells it again.
	rest := whole + "xi = 1;"
	for _, eqs := range []string{
		"x = 1; @x = 2;", "x = 1; @der x = 2;", "der x = 1 init 0; @x = 1;", "der x = 1; @der x = 2;", "x = 1; @(y, x) = 2;", "(x, y) = 1; @(z, y) = 2;", "@(x, x) = 1;", "@(x, y, x) = 1; z = 1; z = 2;",
		"x = 1; @reset { x = 1; } every v;", "reset { x = 1; } every v; @x = 1;", "reset { x = 1; } every v; @reset { y = 1; x = 2; } every v;", "reset { x = 1; @x = 2; } every v; x = 3;", "x = 1; reset { y = 1; @y = 2; } every v; x = 3;",
		"x = 1; @reset { y = 1; x = 2; } every v; y = 3;", "x = 1; @present v then { x = 1; } else { x = 2; };", "present v then { x = 1; } else { x = 2; }; @x = 1;", "present v then { x = 1; @x = 1; } else { x = 2; }; x = 3;", "present v then { x = 1; } else { x = 1; @x = 2; }; x = 3;",
		"present v then { xi = 1; } else { }; @xi = 2;", "present v then { } else { xi = 1; }; @xi = 2;", "xi = 2; @present v then { } else { xi = 1; };", "present v then { } else { xi = 1; }; @present v then { xi = 1; } else { };",
		"x = 1; @automaton state A { x = 1; } end;", "automaton state A { x = 1; } end; @x = 1;", "automaton state A { x = 1; @x = 2; } end; x = 1;", "automaton state A { x = 1; } state B { x = 1; @x = 2; } end; x = 1;", "automaton state A { } state B { } state C { xi = 1; } end; @xi = 1;",
		"automaton state A { reset { x = 1; } every v; @present v then { x = 1; } else { x = 2; }; } end;", "present v then { automaton state A { x = 1; } end; @(y, x) = 1; } else { };", "reset { reset { x = 1; } every v; } every v; @x = 1;",
	} {
		within(t, eqs, api.ErrTwice)
		within(t, eqs+rest, api.ErrTwice) // the first one
	}
	within(t, rest+"x = 1;", api.OK)
	within(t, rest+"reset { reset { x = 1; } every v; } every v;", api.OK)
	within(t, whole+"present v then { (xi, x) = 1; } else { x = 2; };", api.OK) // each told once on each way
}

func TestToldByBranches(t *testing.T) {
	// 8.1: of present and automaton, name by name: ErrTwice, else ErrBranch.
	ok := func(eqs string) { t.Helper(); within(t, eqs, api.OK) }
	twice := func(eqs string) { t.Helper(); within(t, eqs, api.ErrTwice) }
	branch := func(eqs string) { t.Helper(); within(t, eqs, api.ErrBranch) }
	rest := whole + "x = 1;"
	ok(rest + "present v then { xi = 1; } else { xi = 2; };")
	ok(rest + "present v then { xi = 1; } else { };")
	ok(rest + "present v then { } else { xi = 1; };")
	ok(rest + "present v then { der xi = 1; } else { };")
	ok(rest + "present v then { der xi = 1; } else { der xi = 2; };")
	ok(rest + "automaton state A { } state B { xi = 1; } state C { } end;")
	ok(rest + "automaton state A { der xi = 1; } state B { } state C { reset { der xi = 2; } every v; } end;")
	ok(whole + "automaton state A { x = 1; } state B { present v then { x = 1; } else { x = 2; }; } state C { reset { x = 2; } every v; } end; xi = 1;")
	twice("@present v then { der xi = 1; } else { xi = 2; };")
	twice("@present v then { xi = 1; } else { der xi = 2; };")
	twice("@present v then { x = 1; } else { der x = 2 init 1; };") // ahead of ErrBranch of one name
	twice("@automaton state A { } state B { x = 1; } state C { der x = 1; } end;")
	twice("@automaton state A { der x = 1; } state B { x = 1; } end;")
	twice("@automaton state A { der xi = 1; } state B { der xi = 1; } state C { xi = 1; } end;")
	branch("@present v then { x = 1; } else { };")
	branch("@present v then { } else { x = 1; };")
	branch("@present v then { der x = 1 init 0; } else { };")
	branch("@present v then { der x = 1 init 0; } else { der x = 1 init 0; };") // a der, though each block tells it
	branch("@automaton state A { der x = 1 init 0; } end;")
	branch("@automaton state A { x = 1; } state B { } end;")
	branch("@automaton state A { } state B { x = 1; } end;")
	branch("@automaton state A { x = 1; } state B { y = 1; x = 1; } end;")
	branch("@automaton state A { x = 1; } state B { x = 1; } state C { xi = 1; } end;")
	branch("@present v then { reset { x = 1; } every v; } else { xi = 1; };")
	branch("reset { @present v then { x = 1; } else { }; } every v;")
	branch("present v then { @present v then { x = 1; } else { }; } else { x = 1; };") // within ahead of around
	branch("present v then { } else { x = 1; automaton state A { } state B { } state C { @present v then { } else { y = 1; }; } end; };")
	branch("@present v then { present v then { x = 1; } else { x = 1; }; } else { };")
	// Name by name: those of the first block in their order, then those of the next ones.
	twice("@present v then { der xi = 1; x = 1; } else { xi = 1; };")
	branch("@present v then { x = 1; der xi = 1; } else { xi = 1; };")
	branch("@automaton state A { x = 1; } state B { der xi = 1; } state C { xi = 1; } end;")
	twice("@present v then { der xi = 1; } else { y = 1; xi = 1; };")
	branch("@present v then { } else { y = 1; }; x = 1; x = 2;")
	twice("@automaton state A { der xi = 1; yi = 1; } state B { x = 1; xi = 1; } end;")
	branch("@automaton state A { yi = 1; } state B { x = 1; xi = 1; } state C { der xi = 1; } end;")
	twice("@automaton state A { yi = 1; } state B { xi = 1; x = 1; } state C { der xi = 1; } end;")
	branch("@present v then { (yi, x) = 1; der xi = 1; } else { xi = 1; };")
	twice("@present v then { reset { yi = 1; der xi = 1; } every v; x = 1; } else { xi = 1; };")
	// First what each block tells, then the names; in a row, the equation's own ahead of what was told ahead.
	twice("present v then { x = 1; } else { y = 1; @y = 1; };")
	twice("automaton state A { x = 1; } state B { } state C { yi = 1; @yi = 1; } end;")
	branch("x = 1; @present v then { x = 1; } else { };")
	twice("xi = 1; @present v then { xi = 1; } else { }; present v then { x = 1; } else { };")
	branch("xi = 1; @present v then { x = 1; } else { }; xi = 1;")
}

func TestAllTold(t *testing.T) {
	// 8.1: then ders that begin with nothing; then own variables that are not told.
	ok := func(eqs string) { t.Helper(); within(t, eqs, api.OK) }
	undefined := func(eqs string) { t.Helper(); within(t, eqs, api.ErrDef) }
	ok(whole + "xi = 1; der x = 1 init 0;")
	ok(whole + "x = 1; der xi = 1;")
	ok(whole + "x = 1; der xi = 1 init 2 reset 0 when v;")
	ok(whole + "xi = 1; reset { reset { der x = 1 init 0; } every v; } every v;")
	undefined(whole + "xi = 1; @der x = 1;")
	undefined(whole + "xi = 1; @der x = 1 reset 0 when v;") // a reset is no beginning
	undefined("@der x = 1;")                                // ahead of what is not told
	undefined("reset { xi = 1; @der x = 1; } every v; der y = 1;")
	undefined("reset { reset { @der x = 1; } every v; } every v;")
	undefined("present v then { der xi = 1; } else { }; der yi = 1; @der y = 1; der x = 1;")
	undefined("der z = 1 init 0; @der y = 1; der x = 1;") // der by der, not variable by variable
	within(t, "der x = 1; y = 1; @y = 2;", api.ErrTwice)  // behind what is told
	within(t, "der x = 1; @present v then { y = 1; } else { };", api.ErrBranch)
	for _, n := range []string{
		"node main() returns (@x: rat) let tel",
		"node main() returns (x: rat, @y: rat) let x = 1; tel",
		"node main() returns (@x: rat, y: rat) let y = 1; tel",
		"node main() returns (@x: rat) var y: rat; let tel",
		"node main() returns (@x: rat init 0) let tel", // a beginning tells nothing by itself
		"node main() returns (@x: rat, y: rat) var z: rat; let z = 1; tel",
		"node main() returns (x: rat) var @y: rat; z: rat; let x = 1; tel",
		"node main() returns (x: rat) var y: rat; @z: rat; let (x, y) = 1; tel",
		"node main() returns (x: rat) var @y: rat; z: rat; let x = 1; z = 1; tel",
		"node main() returns (@x: rat) let reset { } every 1; present true then { } else { }; automaton state A { } end; tel",
		"node main(x: rat) returns (@y: rat init 1) let reset { } every last y; tel", // what is read is not told
	} {
		tells(t, n, api.ErrDef)
		tells(t, n+" node h(a: q) returns (x: rat) let tel", api.ErrDef) // ahead of the next node
	}
	tells(t, "node main(v: rat) returns (x: rat) let x = main(v); tel node h(v: rat) returns (@x: rat) let tel", api.ErrDef) // ahead of calls that go round
}

func TestRound(t *testing.T) {
	// 8.1
	node := func(name string, calls ...string) string {
		out := "node " + name + "() returns (x: rat init 0) let "
		for i, c := range calls {
			switch i % 3 {
			case 0:
				out += "reset { } every " + c + "(); "
			case 1:
				out += "automaton state A { } until 1 + (if true then 2 else " + c + "()) then A end; "
			case 2:
				out += "present true then { reset { } every pre " + c + "(); } else { }; "
			}
		}
		return out + "x = 1; tel "
	}
	round := func(src string) { t.Helper(); tells(t, src, api.ErrRound) }
	round("@" + node("main", "main"))
	round(node("main", "f") + "@" + node("f", "f"))
	round(node("main", "f") + "@" + node("f", "g") + node("g", "h") + node("h", "f"))
	round(node("h", "main") + node("k") + "@" + node("main", "k", "k", "f") + node("f", "k", "g") + node("g", "k", "k", "main"))
	round(node("main", "f", "g", "h") + "@" + node("g", "h") + node("f", "g") + node("h", "g"))
	round("@" + node("f", "g") + node("g", "f") + "node main(v: int) returns (x: rat) let x = v; tel") // ahead of main
	round("@" + node("f", "g") + node("g", "f"))
	round("node main() returns (x: rat) let x = 1; tel @hybrid f() returns (x: rat) let der x = 1 init f(); tel")
	round("node main() returns (x: rat) let x = 1; tel @hybrid f() returns (x: rat) let der x = 1 init 1 reset 1 when f() < 0; tel")
	for _, names := range [][]string{{"main", "f", "g", "h"}, {"h", "g", "f", "main"}, {"g", "main", "h", "f"}} {
		src := ""
		for _, name := range names {
			src += node(name, map[string][]string{"main": {"f", "g", "h", "f"}, "f": {"g", "h", "h"}, "g": {"h", "h"}}[name]...)
		}
		tells(t, src, api.OK)
	}
}

func TestMain(t *testing.T) {
	// 8.1
	main := func(src string) { t.Helper(); tells(t, src, api.ErrMain) }
	main("")
	main(oneIn)
	main("type main = {A}; " + oneIn)
	main("node f() returns (main: rat) let main = 1; tel")
	main("node main_() returns (x: rat) let x = 1; tel")
	main(oneIn + "@node main(v: int) returns (x: int) let x = v; tel")
	main("@node main(v: rat, w: bool) returns (x: rat) let x = v; tel " + oneIn)
	main(oneIn + "@hybrid main(v: rat, u: rat, w: t, z: bool) returns (x: rat) let x = v; tel type t = {A};")
	tells(t, "node main(v: rat, w: rat) returns (x: int, y: t) let x = v; y = w; tel type t = {A}; "+oneIn, api.OK)
	tells(t, "node f(v: int) returns (x: int) let x = v; tel "+main0, api.OK)
}

func TestDersAndCalls(t *testing.T) {
	// 8.2
	for _, c := range []struct{ eqs, ders, calls string }{
		{"", "", ""},
		{"x = 1;", "", ""},
		{"x = f(g(1), h());", "", "f g h"},
		{"x = 1 + f(f(g())); y = (g(), k());", "", "f g k"},
		{"der x = a() init b() reset c() when d();", "x", "a b c d"},
		{"der x = 1; der y = 2; x = 1; der x = 3;", "x y", ""},
		{"reset { der b = g(); der a = h(); } every f();", "b a", "g h f"},
		{"present f() then { der x = g(); } else { der y = h(); };", "x y", "f g h"},
		{"automaton state A { der z = a(); } until b() then A until c() continue A state B { der y = d(); } until e() then A end;", "z y", "a b c d e"},
		{"x = if a() then b() else pre c(); y = - d(up(e())); z = last f fby floor(f());", "", "a b c d e f"},
		{"y = b() - a() * (c() -> d()); x = a() and rat(b()) or not e();", "", "b a c d e"},
		{"present a() then { reset { automaton state A { der q = b(); } end; } every c(); } else { der q = 1; present d() then { } else { der p = e(); }; }; der o = a();", "q p o", "a b c d e"},
	} {
		p, err, place := parse.Parse([]byte("hybrid n(u: rat) returns (v: rat) let " + c.eqs + " tel"))
		if err != api.OK {
			t.Fatal(c.eqs, place)
		}
		ders, calls := strings.Join(names.Ders(p.Nodes[0]), " "), strings.Join(names.Calls(p.Nodes[0]), " ")
		if ders != c.ders || calls != c.calls {
			t.Errorf("%s: got %s; %s, want %s; %s", c.eqs, ders, calls, c.ders, c.calls)
		}
	}
}

func TestNodeAndCtor(t *testing.T) {
	// 8.2: the first one of a name, whether the program is taken or not.
	p, _ := marked(t, "type t = {A, B, A}; type u = {C, B}; type t = {D}; node f() returns (x: rat) let tel node g() returns (x: rat) let tel node f() returns (x: rat) let tel node main() returns (x: rat) let tel")
	for name, want := range map[string]int{"f": 0, "g": 1, "main": 3, "t": -1, "x": -1, "A": -1, "": -1, "F": -1, "ff": -1} {
		if got := names.Node(p, name); got != want {
			t.Error(name, got)
		}
	}
	for name, want := range map[string][2]int{"A": {0, 0}, "B": {0, 1}, "C": {1, 0}, "D": {2, 0}, "E": {-1, -1}, "t": {-1, -1}, "f": {-1, -1}, "": {-1, -1}, "AB": {-1, -1}} {
		if i, j := names.Ctor(p, name); [2]int{i, j} != want {
			t.Error(name, i, j)
		}
	}
	i, j := names.Ctor(api.Program{}, "A")
	if n := names.Node(api.Program{}, "main"); n != -1 || i != -1 || j != -1 {
		t.Error(n, i, j)
	}
}
