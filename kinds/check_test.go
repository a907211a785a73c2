package kinds_test

import (
	"strings"
	"testing"

	"foliot/api"
	"foliot/kinds"
	"foliot/types"
)

// others are nodes of either kind that may be called.
const others = "type t = {A, B}; hybrid go(v: rat) returns (x: rat) let der x = v init 0; tel node still(v: rat) returns (x: rat) let x = v; tel "

// hybrid asks for Check's answer on equations in a hybrid node.
func hybrid(t *testing.T, eqs string, want api.Errno) {
	t.Helper()
	tells(t, others+"hybrid main(v: rat) returns (x: rat init 0, y: rat init 0, b: bool init true) var z: rat init 1; let "+eqs+" tel", want)
}

// node asks for it on equations in a node that is not.
func node(t *testing.T, eqs string, want api.Errno) {
	t.Helper()
	tells(t, others+"node main(v: rat) returns (x: rat init 0, y: rat init 0, b: bool init true) var z: rat init 1; let "+eqs+" tel", want)
}

// What tells all own variables but y: x and z as ders, or not.
const (
	rest  = " der x = 1; der z = 1; b = true;"
	still = " x = 1; z = 1; b = true;"
)

func TestTypesFirst(t *testing.T) {
	// 10.2: the error of layer 9 ahead of all kinds.
	node(t, "der x = x; y = @b; z = 1; b = true;", api.ErrType)
	node(t, "der x = x; y = @w; z = 1; b = true;", api.ErrName)
	node(t, "der x = x; y = up(x @+ b); z = 1; b = true;", api.ErrType)
	node(t, "@der b = up(v); x = 1; y = 1; z = 1;", api.ErrType)
	tells(t, "node f() returns (x: rat init 0) let der x = x; tel @node main(v: int) returns (x: rat) let x = go(v); tel hybrid go(v: int) returns (x: rat) let x = 1; tel", api.ErrMain)
	for _, p := range []api.Program{{}, {Nodes: []api.Node{{}}}, {Nodes: []api.Node{{Name: "main", Pos: 4}}}} {
		want, at := types.Check(p)
		if err, place := kinds.Check(p); err != want || place != at || err == api.OK {
			t.Error(p, err, place)
		}
	}
}

func TestDersOfNodes(t *testing.T) {
	// 10.2: a der stands in a hybrid node; wherever it stands, and whatever it is.
	for _, der := range []string{"der y = v;", "der y = 1 init 2;", "der y = last y;", "der y = 1 init v reset 2 when b;"} {
		for _, block := range []string{"#", "reset { # } every b;", "present b then { # } else { };", "present b then { } else { # };", "automaton state A { # } state B { } end;", "automaton state A { } until b then B state B { x = 2; # } end;"} {
			tail := still
			if strings.Contains(block, "x =") {
				tail = " z = 1; b = true;"
			}
			node(t, strings.Replace(block, "#", "@"+der, 1)+tail, api.ErrKind)
			hybrid(t, strings.Replace(block, "#", der, 1)+tail, api.OK)
		}
	}
	node(t, "y = 1; z = 1; b = true; @der x = x;", api.ErrKind)
	node(t, "@der z = z; der x = x; y = 1; b = true;", api.ErrKind)
}

func TestSlopes(t *testing.T) {
	// 10.2: what a der goes on by is steady; at its own place, which of two that a sign puts together is the sign's.
	for _, slope := range []string{"v", "1", "last x", "last z + v", "y", "pre y", "0 -> pre y", "go(1)", "still(go(y))", "if up(v) then 1 else 2", "v * v / y", "0 fby last z"} {
		hybrid(t, "der x = "+slope+"; y = x; der z = "+slope+"; b = true;", api.OK)
	}
	for _, slope := range []string{"@x", "@z", "x @+ 1", "1 @* (v + z)", "@- x", "@pre x", "@go(x)", "@still(go(z))", "@if up(x) then 1 else 2", "@if b then v else z", "0 @-> pre x", "v @- 0 * x", "(@z)"} {
		hybrid(t, "der x = "+slope+"; y = x; der z = 1; b = true;", api.ErrKind)
		hybrid(t, "der x = 1; y = x; der z = "+slope+" init x reset x when x > z; b = true;", api.ErrKind)
		hybrid(t, "der x = 1; y = x; present b then { reset { der z = "+slope+"; } every b; } else { }; b = true;", api.ErrKind)
	}
	hybrid(t, "der x = 1 init x * z reset z / x when x < z; der z = 1 init x; y = 1; b = true;", api.OK)
	hybrid(t, "der x = y; y = x * z; der z = y; b = x < y;", api.OK)
}

func TestDersOfTheNode(t *testing.T) {
	// 10.2: ders are those of the node itself, wherever they stand in it.
	other := "hybrid f(v: rat) returns (y: rat) let der y = v init 0; tel "
	tells(t, other+"hybrid main(v: rat) returns (x: rat, y: rat) let der x = y init 0; y = v; tel", api.OK)
	tells(t, "hybrid main(v: rat) returns (x: rat, y: rat) let der x = y init 0; y = v; tel "+other, api.OK)
	tells(t, other+"hybrid main(v: rat) returns (x: rat, b: bool) var y: rat; let der x = y init 0; b = up(y * y); y = v; tel", api.OK)
	tells(t, "hybrid f(v: rat) returns (y: rat) let der y = v init 0; tel hybrid g(v: rat) returns (x: rat, y: rat) let der x = @y init 0; der y = 1 init 0; tel hybrid main() returns (x: rat) let x = f(1); tel", api.ErrKind)
	hybrid(t, "der x = @z; y = 1; automaton state A { } until b then B state B { der z = 1; } end; b = true;", api.ErrKind)
	hybrid(t, "automaton state A { } until b then B state B { der z = 1; } end; y = 1; reset { der x = @z; } every b; b = true;", api.ErrKind)
	hybrid(t, "automaton state A { der x = 1; } until b then B state B { y = if @up(x * x) then 1 else 2; } end; der z = 1; b = true;", api.ErrKind)
}

// holes are equations with a place # for a truth.
func holes() []string {
	return []string{
		"b = #; y = 1;",
		"b = not (#); y = 1;",
		"b = true; y = if b and # then v else 1 + v;",
		"b = true; y = still(if # then 1 else 2);",
		"(b, y) = (#, 1);",
		"b = true; reset { y = v; } every #;",
		"b = true; reset { reset { y = 1; } every #; } every b;",
		"b = true; present # then { y = v; } else { };",
		"b = true; present b then { y = 1; } else { y = if # then 1 else 2; };",
		"b = true; present b then { y = if # then 1 else 2; } else { };",
		"b = true; automaton state A { y = 1; } until # then A end;",
		"b = true; automaton state A { y = 1; } until b then A until # continue B state B { } end;",
		"b = true; automaton state A { y = 1; } until b then A state B { } until false -> # then A end;",
		"b = true; automaton state A { y = 1; } until b then A state B { y = pre (if # then 1 else 2); } end;",
	}
}

// derHoles are equations of a der y with a place # for a truth.
func derHoles() []string {
	return []string{
		"der y = if # then 1 else 2;",
		"der y = 1 init if # then 1 else 2;",
		"der y = 1 init 0 reset if # then 1 else 2 when b;",
		"der y = 1 init 0 reset 1 when #;",
		"der y = 1 reset 1 when b and #;",
	}
}

func TestUps(t *testing.T) {
	// 10.2: an up stands in a hybrid node, and asks what is not of 2.
	tail := " der x = 1; der z = 1;"
	for _, hole := range holes() {
		node(t, strings.Replace(hole, "#", "@up(v)", 1)+" x = 1; z = 1;", api.ErrKind)
		node(t, strings.Replace(hole, "#", "@up(x * z)", 1)+" x = 1; z = 1;", api.ErrKind)
		for _, fine := range []string{"v", "x", "x - 1", "v * v", "2 * x - z / v", "last x * last z", "if v > 1 then x else z", "1"} {
			hybrid(t, strings.Replace(hole, "#", "up("+fine+")", 1)+tail, api.OK)
		}
		for _, wrong := range []string{"x * z", "pre v", "1 / x", "if x > 1 then 1 else 2", "still(1)", "go(v)", "0 -> v", "0 fby v", "rat(floor(x))", "(x * x)", "- pre 1", "if up(v) then 1 else 2"} {
			hybrid(t, strings.Replace(hole, "#", "@up("+wrong+")", 1)+tail, api.ErrKind)
		}
	}
	for _, hole := range derHoles() {
		hybrid(t, strings.Replace(hole, "#", "up(v)", 1)+tail+" b = true;", api.OK)
		hybrid(t, strings.Replace(hole, "#", "@up(v / pre v)", 1)+tail+" b = true;", api.ErrKind)
	}
}

func TestCalls(t *testing.T) {
	// 10.2: a hybrid node is called in a hybrid one.
	tail := " der x = 1; der z = 1;"
	for _, hole := range holes() {
		node(t, strings.Replace(hole, "#", "(@go(v) > 1)", 1)+" x = 1; z = 1;", api.ErrKind)
		node(t, strings.Replace(hole, "#", "(still(v) > 1)", 1)+" x = 1; z = 1;", api.OK)
		for _, fine := range []string{"go(v)", "go(x * x)", "go(pre x)", "still(x / z)", "go(still(go(x)))"} {
			hybrid(t, strings.Replace(hole, "#", "("+fine+" > 1)", 1)+tail, api.OK)
		}
	}
	for _, hole := range derHoles() {
		hybrid(t, strings.Replace(hole, "#", "(go(v) > 1)", 1)+tail+" b = true;", api.OK)
	}
	node(t, "(y, b) = (@go(1), true); x = 1; z = 1;", api.ErrKind)
	tells(t, "node f() returns (x: rat) let x = @g(); tel hybrid g() returns (x: rat) let x = 1; tel hybrid main() returns (x: rat) let x = f(); tel", api.ErrKind)
	tells(t, "hybrid main() returns (x: rat) let x = f() + g(); tel hybrid f() returns (x: rat) let x = g(); tel node g() returns (x: rat) let x = 1; tel", api.OK)
	tells(t, "node main() returns (x: rat) let x = g(); tel hybrid f() returns (x: rat) let x = g(); tel node g() returns (x: rat) let x = 1; tel", api.OK)
}

func TestOfADer(t *testing.T) {
	// 10.2: of a der first itself, then its slope, then what is in its slope, init, reset, when.
	node(t, "@der y = go(y) init go(1) reset go(1) when up(y * y);"+still, api.ErrKind)
	hybrid(t, "der y = @if up(y * y) then 1 else 2 init 0;"+rest, api.ErrKind)
	hybrid(t, "der y = 1 @+ go(y) init 0 reset 1 when up(y * y);"+rest, api.ErrKind)
	hybrid(t, "der y = if @up(pre v) then 1 else 2 init if up(pre v) then 1 else 2;"+rest, api.ErrKind)
	hybrid(t, "der y = 1 init if @up(pre v) then 1 else 2 reset if up(pre v) then 1 else 2 when up(pre v);"+rest, api.ErrKind)
	hybrid(t, "der y = 1 init 1 reset if @up(pre v) then 1 else 2 when up(pre v);"+rest, api.ErrKind)
	hybrid(t, "der y = y @* y init if up(pre v) then 1 else 2; der x = x; der z = 1; b = true;", api.ErrKind)
}

func TestItselfFirst(t *testing.T) {
	// 10.2: an expression ahead of its Args, these one by one.
	hybrid(t, "b = @up(if up(x * x) then 1 else 2); y = 1; der x = 1; der z = 1;", api.ErrKind)
	hybrid(t, "b = @up(x * x) or up(z * z); y = 1; der x = 1; der z = 1;", api.ErrKind)
	hybrid(t, "b = up(x) or @up(z * z); y = 1; der x = 1; der z = 1;", api.ErrKind)
	hybrid(t, "b = go(if @up(x * x) then 1 else 2) > 1; y = 1; der x = 1; der z = 1;", api.ErrKind)
	node(t, "b = @up(go(1)); y = 1; x = 1; z = 1;", api.ErrKind)
	node(t, "y = @go(if up(v) then 1 else 2); x = 1; z = 1; b = true;", api.ErrKind)
	node(t, "y = @go(go(1)) + go(2); x = 1; z = 1; b = true;", api.ErrKind)
	node(t, "y = still(@go(1)); x = 1; z = 1; b = true;", api.ErrKind)
	node(t, "(b, y) = (@up(v), go(1)); x = 1; z = 1;", api.ErrKind)
	node(t, "(y, b) = (@go(1), up(v)); x = 1; z = 1;", api.ErrKind)
	node(t, "y = if v > 1 then @go(1) else go(2); x = 1; z = 1; b = true;", api.ErrKind)
	node(t, "y = if v > @go(1) then go(1) else go(2); x = 1; z = 1; b = true;", api.ErrKind)
}

func TestReadInOrder(t *testing.T) {
	// 10.2: which one comes first.
	node(t, "reset { y = @go(1); } every up(v);"+still, api.ErrKind)
	node(t, "reset { reset { y = 1; } every @up(v); x = go(1); } every up(v); z = 1; b = true;", api.ErrKind)
	node(t, "reset { @der y = 1; } every up(v);"+still, api.ErrKind)
	node(t, "present @up(v) then { y = go(1); } else { der x = 1; };"+" z = 1; b = true;", api.ErrKind)
	node(t, "present b then { y = @go(1); } else { y = go(1); };"+still, api.ErrKind)
	node(t, "present b then { y = 1; } else { y = @go(1); }; x = go(1); z = 1; b = true;", api.ErrKind)
	node(t, "automaton state A { y = @go(1); } until up(v) then A state B { y = go(1); } until up(v) then B end;"+still, api.ErrKind)
	node(t, "automaton state A { y = 1; } until @up(v) then A until up(v) then A state B { y = go(1); } until up(v) then B end;"+still, api.ErrKind)
	node(t, "automaton state A { y = 1; } until b then A until @up(v) then A state B { y = go(1); } until up(v) then B end;"+still, api.ErrKind)
	node(t, "automaton state A { y = 1; } until b then A state B { y = @go(1); } until up(v) then B end;"+still, api.ErrKind)
	node(t, "automaton state A { y = 1; } until b then A state B { y = 1; } until @up(v) then B end; x = go(1); z = 1; b = true;", api.ErrKind)
	node(t, "y = @go(1); x = go(1); z = 1; b = up(v);", api.ErrKind)
	node(t, "y = 1; x = 1; b = @up(v); der z = z;", api.ErrKind)
	hybrid(t, "y = 1; der x = @z; der z = x; b = up(x * x);", api.ErrKind)
}

func TestNodeByNode(t *testing.T) {
	// 10.2: nodes in the order in which they stand, whoever calls them, or nobody.
	wrong := func(name, mark string) string {
		return "node " + name + "() returns (x: rat init 0) let " + mark + "der x = x; tel "
	}
	tells(t, wrong("f", "@")+wrong("main", "")+wrong("g", ""), api.ErrKind)
	tells(t, wrong("main", "@")+wrong("f", ""), api.ErrKind)
	tells(t, "node main() returns (x: rat) let x = f(); tel "+wrong("f", "@")+wrong("g", ""), api.ErrKind)
	tells(t, "node main() returns (x: rat) let x = 1; tel hybrid g() returns (x: rat) let x = 1; tel "+wrong("f", "@"), api.ErrKind)
	tells(t, "node main() returns (x: rat) let x = @f() + 1; tel hybrid f() returns (x: rat init 0) let der x = x; tel", api.ErrKind)
	tells(t, "hybrid main() returns (x: rat) let x = f() + 1; tel hybrid f() returns (x: rat init 0) let der x = @x; tel", api.ErrKind)
}

func TestWhole(t *testing.T) {
	// 10.2: examples of the whole, and programs in which nothing is wrong.
	tells(t, "hybrid main() returns (x: rat) let der x = @x init 0; tel", api.ErrKind)
	tells(t, "hybrid main() returns (x: rat) let der x = 1 init 0 reset 0 when up(x - 1); tel", api.OK)
	tells(t, "hybrid main() returns (x: rat init 0) let automaton state A { der x = 1; } until up(x - 1) then B state B { der x = -1; } until up(-x) then A end; tel", api.OK)
	tells(t, "node main() returns (n: int) let n = 0 -> pre n + 1; tel", api.OK)
	tells(t, "node main() returns (n: int) let n = pre n; tel", api.OK)
	tells(t, "node main() returns (x: rat, y: rat) let x = y; y = x; tel", api.OK)
	tells(t, "type num = {A}; hybrid main() returns (x: rat, c: num) let der x = 1 init 0 reset A when up(x - A); c = A; tel", api.OK)
}
