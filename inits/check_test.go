package inits_test

import (
	"strings"
	"testing"

	"foliot/api"
	"foliot/inits"
	"foliot/kinds"
)

// hybrid asks for Check's answer on equations in a hybrid node, whose ders x and z are.
func hybrid(t *testing.T, eqs string, want api.Errno) {
	t.Helper()
	tells(t, "type t = {A, B}; hybrid go(v: rat) returns (x: rat) let der x = v init 0; tel node two(v: rat, w: rat) returns (x: rat, y: rat) let x = v; y = w; tel hybrid main(v: rat) returns (x: rat init 0, y: rat init 0, b: bool init true, c: bool) var z: rat init 1; let "+eqs+" tel", want)
}

// rest tells all own variables but y.
const rest = " der x = 1; der z = 1; b = true; c = true;"

func TestKindsFirst(t *testing.T) {
	// 11.2: the error of layer 10, which may be one of a layer below, ahead of all that is not told.
	hybrid(t, "y = pre v; der x = @z; der z = 1; b = true; c = true;", api.ErrKind)
	hybrid(t, "y = pre pre v; der x = 1; der z = 1; b = @up(pre pre v); c = true;", api.ErrKind)
	hybrid(t, "y = pre v; der x = 1; der z = 1; b = true; c = @v;", api.ErrType)
	hybrid(t, "y = pre v; der x = 1; der z = 1; b = true; c = @w;", api.ErrName)
	tells(t, "node main(v: rat) returns (x: rat) let x = pre v; tel node f() returns (x: rat) let x = 1; @x = 2; tel", api.ErrTwice)
	tells(t, "@node main(v: int) returns (x: int) let x = pre v; tel", api.ErrMain)
	for _, p := range []api.Program{{}, {Nodes: []api.Node{{}}}, {Nodes: []api.Node{{Name: "main", Pos: 4}}}} {
		want, at := kinds.Check(p)
		if err, place := inits.Check(p); err != want || place != at || err == api.OK {
			t.Error(p, err, place)
		}
	}
}

// holes are equations with a place # for a whole expression, a number.
func holes() []string {
	return []string{
		"y = #;",
		"reset { y = #; } every b;",
		"reset { reset { y = #; } every c; } every b;",
		"present b then { y = #; } else { };",
		"present b then { } else { y = #; };",
		"present b then { y = v; } else { present c then { } else { y = #; }; };",
		"automaton state A { y = #; } until b then A end;",
		"automaton state A { } until b then B state B { y = #; } end;",
		"der y = # init 2;",
		"der y = #;",
		"der y = 1 init #;",
		"der y = 1 init 2 reset # when c;",
		"der y = 1 reset # when c;",
		"reset { der y = # init 0; } every b;",
		"automaton state A { der y = 1 init #; } until b then B state B { der y = v; } end;",
		"automaton state A { der y = 1; } until b then B state B { der y = #; } end;",
	}
}

// truths are likewise, of a truth.
func truths() []string {
	return []string{
		"reset { y = v; } every #;",
		"reset { reset { y = v; } every #; } every b;",
		"present # then { y = v; } else { };",
		"present b then { y = v; } else { present # then { } else { }; };",
		"automaton state A { y = v; } until # then A end;",
		"automaton state A { y = v; } until b then B until # continue A state B { } end;",
		"automaton state A { y = v; } until b then B state B { } until c then A until # then B end;",
		"der y = 1 init 2 reset 3 when #;",
		"der y = 1 reset 3 when #;",
	}
}

func TestNumbers(t *testing.T) {
	// 11.2: each expression, wherever it stands, by itself: its error, or that it is not told.
	for _, hole := range holes() {
		for _, fine := range []string{"1", "v", "last x", "0 -> pre v", "0 fby v", "go(0 -> pre v)", "if b then 1 else 0 fby (1 -> pre v)", "0 -> 1 + pre v", "0 -> if pre b then pre v else go(1)"} {
			hybrid(t, strings.Replace(hole, "#", fine, 1)+rest, api.OK)
		}
		for _, wrong := range []string{"@pre v", "1 @+ pre v", "pre v @-> 1", "pre v @fby 1", "@if b then 1 else pre v", "@if pre b then 1 else 2", "@- pre v", "0 fby @pre v", "go(@pre v)", "@pre pre v", "1 -> @pre pre v", "1 + go(2 @* pre v)", "@rat(floor(pre v))"} {
			hybrid(t, strings.Replace(hole, "#", wrong, 1)+rest, api.ErrInit)
		}
	}
}

func TestTruths(t *testing.T) {
	// 11.2: likewise.
	for _, hole := range truths() {
		for _, fine := range []string{"b", "false -> pre b", "up(v)", "v > (0 -> pre v)", "true -> not pre b", "true fby last b"} {
			hybrid(t, strings.Replace(hole, "#", fine, 1)+rest, api.OK)
		}
		for _, wrong := range []string{"@pre b", "@not pre b", "c @and pre b", "pre b @-> c", "true fby @pre b", "go(@pre v) > 1", "pre v @> 1", "true -> @pre pre b"} {
			hybrid(t, strings.Replace(hole, "#", wrong, 1)+rest, api.ErrInit)
		}
	}
}

func TestTuples(t *testing.T) {
	// 11.2: of a tuple its own place, of a call that of its Arg.
	hybrid(t, "(y, b) = (1, true); der x = 1; der z = 1; c = true;", api.OK)
	hybrid(t, "(y, b) = @(pre v, true); der x = 1; der z = 1; c = true;", api.ErrInit)
	hybrid(t, "(y, b) = @(1, pre c); der x = 1; der z = 1; c = true;", api.ErrInit)
	hybrid(t, "(y, b) = (0 -> pre v, true fby c); der x = 1; der z = 1; c = true;", api.OK)
	hybrid(t, "(y, x) = two(1, 0 -> pre v); der z = 1; b = true; c = true;", api.OK)
	hybrid(t, "(y, x) = two(1, @pre v); der z = 1; b = true; c = true;", api.ErrInit)
	hybrid(t, "(y, x) = two(@pre v, pre v); der z = 1; b = true; c = true;", api.ErrInit)
}

func TestReadInOrder(t *testing.T) {
	// 11.2: which one comes first: equations as they are read.
	hybrid(t, "y = @pre v; der x = pre v; der z = 1; b = pre c; c = true;", api.ErrInit)
	hybrid(t, "c = 1 > @pre pre v; y = pre v; der x = 1; der z = 1; b = true;", api.ErrInit)
	hybrid(t, "y = pre v -> @pre pre v; x = pre v; der z = 1; b = true; c = true;", api.ErrInit)
	hybrid(t, "der y = @pre v init pre v reset pre v when pre b;"+rest, api.ErrInit)
	hybrid(t, "der y = 1 init @pre v reset pre v when pre b;"+rest, api.ErrInit)
	hybrid(t, "der y = 1 init 0 reset @pre v when pre b;"+rest, api.ErrInit)
	hybrid(t, "der y = @pre v init pre pre v;"+rest, api.ErrInit)
	hybrid(t, "der y = 1 reset @pre v when pre pre b;"+rest, api.ErrInit)
	hybrid(t, "reset { y = @pre v; } every pre b;"+rest, api.ErrInit)
	hybrid(t, "reset { reset { y = 1; } every @pre c; x = pre v; } every pre b; der z = 1; b = true; c = true;", api.ErrInit)
	hybrid(t, "present @pre b then { y = pre v; } else { y = pre v; };"+rest, api.ErrInit)
	hybrid(t, "present b then { y = @pre v; } else { y = pre v; };"+rest, api.ErrInit)
	hybrid(t, "present b then { y = 1; } else { y = @pre v; }; c = pre b; der x = 1; der z = 1; b = true;", api.ErrInit)
	hybrid(t, "automaton state A { y = @pre v; } until pre b then A state B { y = pre v; } until pre b then B end;"+rest, api.ErrInit)
	hybrid(t, "automaton state A { y = 1; } until @pre b then A until pre b then B state B { y = pre v; } until pre b then B end;"+rest, api.ErrInit)
	hybrid(t, "automaton state A { y = 1; } until b then A until @pre b then B state B { y = pre v; } until pre b then B end;"+rest, api.ErrInit)
	hybrid(t, "automaton state A { y = 1; } until b then A state B { y = @pre v; } until pre b then B end;"+rest, api.ErrInit)
	hybrid(t, "automaton state A { y = 1; } until b then A state B { } until b then B until @pre b then A state C { y = pre v; } end;"+rest, api.ErrInit)
	hybrid(t, "automaton state A { y = 1; } until @pre b then A end; c = pre b; der x = 1; der z = 1; b = true;", api.ErrInit)
}

func TestNodeByNode(t *testing.T) {
	// 11.2: nodes in the order in which they stand, whoever calls them, or nobody.
	wrong := func(name, mark string) string {
		return "node " + name + "() returns (x: rat) let x = " + mark + "pre x; tel "
	}
	fine := "node h() returns (x: rat) let x = 0 -> pre x; tel "
	tells(t, wrong("f", "@")+wrong("main", "")+wrong("g", ""), api.ErrInit)
	tells(t, wrong("main", "@")+wrong("f", ""), api.ErrInit)
	tells(t, fine+"node main() returns (x: rat) let x = f(); tel "+wrong("f", "@")+wrong("g", ""), api.ErrInit)
	tells(t, "node main() returns (x: rat) let x = 1; tel "+fine+wrong("f", "@"), api.ErrInit)
	tells(t, "node main() returns (x: rat) let x = h(); tel "+fine, api.OK)
}

func TestLiterals(t *testing.T) {
	// 11.2: what a variable begins with is a literal, and told; last tells it.
	tells(t, "node main() returns (x: rat init -1, b: bool init true) let x = last x + 1; b = not last b; tel", api.OK)
	tells(t, "node main() returns (x: rat init -1) let x = @pre last x; tel", api.ErrInit)
}

func TestWhole(t *testing.T) {
	// 11.2: examples of the whole, and others in which nothing is wrong, or something.
	tells(t, "node main() returns (n: int) let n = 0 -> pre n + 1; tel", api.OK)
	tells(t, "node main() returns (n: int) let n = @pre n; tel", api.ErrInit)
	tells(t, "node main() returns (q: rat) let q = 1 -> pre q / 3; tel", api.OK)
	tells(t, "node main() returns (x: rat, y: rat) let x = y; y = x; tel", api.OK)
	tells(t, "node main() returns (x: rat, y: rat) let x = 0 fby y; y = x + 1; tel", api.OK)
	tells(t, "hybrid main() returns (x: rat) let der x = 1 init 0 reset 0 when up(x - 1); tel", api.OK)
	tells(t, "hybrid main() returns (x: rat init 0) let automaton state A { der x = 1; } until up(x - 1) then B state B { der x = -1; } until up(-x) then A end; tel", api.OK)
	tells(t, "hybrid main() returns (x: rat, n: int) var b: bool; let der x = 1 init 0 reset 0 when b; b = up(x - 1); n = 0 -> if b then pre n + 1 else pre n; tel", api.OK)
	tells(t, "hybrid main() returns (x: rat, n: int) var b: bool; let der x = 1 init 0 reset 0 when b; b = up(x - 1); n = @if b then 0 else pre n; tel", api.ErrInit)
}
