package types_test

import (
	"strings"
	"testing"

	"foliot/api"
	"foliot/names"
	"foliot/types"
)

// within tells Check's answer on equations in a node main with variables of all types; a node two has two Out.
func within(t *testing.T, eqs string, want api.Errno) {
	t.Helper()
	tells(t, "type t = {A, B}; type u = {C}; node two(i: int) returns (p: rat, q: bool) let (p, q) = (1, true); tel node one(r: rat) returns (p: rat) let p = r; tel "+
		"hybrid main(v: rat) returns (x: rat init 0, i: int init 0) var b: bool init true; c: t init A; d: u init C; let "+eqs+" tel", want)
}

// rest tells all own variables of within but x.
const rest = " i = 1; b = true; c = A; d = C;"

func TestNamesFirst(t *testing.T) {
	// 9.2: the error of layer 8 ahead of all types.
	tells(t, "node f() returns (x: bool) let x = 1; tel node main(v: rat) returns (x: rat) let x = @y; tel", api.ErrName)
	tells(t, "@node main(v: int) returns (x: bool) let x = 1; tel", api.ErrMain)
	tells(t, "node main() returns (x: bool init 1) let x = 1; @x = 2; tel", api.ErrTwice)
	for _, p := range []api.Program{{}, {Nodes: []api.Node{{}}}, {Nodes: []api.Node{{Name: "main", Pos: 4}}}} {
		want, at := names.Check(p)
		if err, place := types.Check(p); err != want || place != at || err == api.OK {
			t.Error(p, err, place)
		}
	}
}

func TestInits(t *testing.T) {
	// 9.2: what a variable begins with, by its type.
	for init, fit := range map[string]string{"true": "b", "false": "b", "1": "i r", "-1": "i r", "1.0": "r", "-0.5": "r", "A": "t", "C": "u"} {
		for name, of := range map[string]string{"b": "bool", "i": "int", "r": "rat", "t": "t", "u": "u"} {
			want, mark := api.ErrType, "@"
			if strings.Contains(fit, name) {
				want, mark = api.OK, ""
			}
			tells(t, "type t = {A, B}; type u = {C}; node main() returns (x: "+of+" init "+mark+init+") let x = last x; tel", want)
			tells(t, "type t = {A, B}; type u = {C}; node main() returns (y: rat) var z: int init 1; x: "+of+" init "+mark+init+"; let y = 1; z = 1; x = last x; tel", want)
		}
	}
	tells(t, "node f() returns (x: int, y: int init @0.5) var z: int init true; let x = 0.5; y = 1; z = 1; tel node main() returns (x: rat) let x = 1; tel", api.ErrType)
	tells(t, "node f() returns (x: int) let x = @0.5; tel node main() returns (x: rat init true) let x = 1; tel", api.ErrType)
	tells(t, "node main() returns (x: rat init @true) let x = 1; tel node f() returns (x: int) let x = 0.5; tel", api.ErrType)
	tells(t, "node main() returns (x: int, y: bool init @1) let x = 0.5; y = x; tel", api.ErrType)
}

func TestDefinitions(t *testing.T) {
	// 9.2
	within(t, "x = 1;"+rest, api.OK)
	within(t, "x = 0.5;"+rest, api.OK)
	within(t, "x = @i;"+rest, api.ErrType)
	within(t, "x = @true;"+rest, api.ErrType)
	within(t, "x = @c;"+rest, api.ErrType)
	within(t, "x = one(v);"+rest, api.OK)
	within(t, "x = @two(1);"+rest, api.ErrType)
	within(t, "x = @(1, 2);"+rest, api.ErrType)
	within(t, "x = (1 @and true, 2);"+rest, api.ErrType)
	within(t, "x = v; i = 1 + 1; b = c == A; c = if b then A else B; d = pre d -> C;", api.OK)
	within(t, "x = v; i = @0.5; b = true; c = A; d = C;", api.ErrType)
	within(t, "x = v; i = 1 @/ 1; b = true; c = A; d = C;", api.ErrType)
	within(t, "x = v; i = @v; b = true; c = A; d = C;", api.ErrType)
	within(t, "x = v; i = 1; b = @1; c = A; d = C;", api.ErrType)
	within(t, "x = v; i = 1; b = @A; c = A; d = C;", api.ErrType)
	within(t, "x = v; i = 1; b = true; c = @C; d = C;", api.ErrType)
	within(t, "x = v; i = 1; b = true; c = A; d = @last c;", api.ErrType)
	within(t, "x = v; i = 1; b = true; c = @1; d = C;", api.ErrType)
}

func TestPatterns(t *testing.T) {
	// 9.2: as many types as names, each of which fits.
	tail := " i = 1; c = A; d = C;"
	within(t, "(x, b) = two(1);"+tail, api.OK)
	within(t, "(x, b) = (1, true);"+tail, api.OK)
	within(t, "(b, x) = @two(1);"+tail, api.ErrType)
	within(t, "(x, b) = @one(1);"+tail, api.ErrType)
	within(t, "(x, b) = @1;"+tail, api.ErrType)
	within(t, "(x, b) = @(1, 2);"+tail, api.ErrType)
	within(t, "(x, b) = @(b, x);"+tail, api.ErrType)
	within(t, "(x, b) = @(1, true, 1);"+tail, api.ErrType)
	within(t, "(x, b) = @two(0.5);"+tail, api.ErrType)
}

func TestDers(t *testing.T) {
	// 9.2
	within(t, "der x = 1;"+rest, api.OK)
	within(t, "der x = v * 0.5 init 1 reset v / 2 when up(x - 1);"+rest, api.OK)
	within(t, "der x = @true;"+rest, api.ErrType)
	within(t, "der x = @i;"+rest, api.ErrType)
	within(t, "der x = @(1, 2);"+rest, api.ErrType)
	within(t, "der x = @two(1);"+rest, api.ErrType)
	within(t, "der x = one(1);"+rest, api.OK)
	within(t, "der x = 1 init @i;"+rest, api.ErrType)
	within(t, "der x = 1 init @(1, 1);"+rest, api.ErrType)
	within(t, "der x = 1 init 1 @and 1 reset b when 1;"+rest, api.ErrType)
	within(t, "der x = 1 init 1 reset @b when 1;"+rest, api.ErrType)
	within(t, "der x = 1 reset 1 when @1;"+rest, api.ErrType)
	within(t, "der x = 1 reset 1 when @v;"+rest, api.ErrType)
	within(t, "der x = 1 reset 1 when @(b, b);"+rest, api.ErrType)
	within(t, "der x = 1 reset 1 @+ b when 1;"+rest, api.ErrType)
	within(t, "der x = @b init i reset i when i;"+rest, api.ErrType)
	within(t, "der x = b @+ 1 init i reset i when i;"+rest, api.ErrType)
	within(t, "x = 1; @der i = true; b = true; c = A; d = C;", api.ErrType)
	within(t, "x = 1; i = 1; @der b = 1; c = A; d = C;", api.ErrType)
	within(t, "x = 1; i = 1; b = true; @der c = 1 + b init c; d = C;", api.ErrType)
}

func TestConditions(t *testing.T) {
	// 9.2
	within(t, "reset { x = v; } every b and v > 1;"+rest, api.OK)
	within(t, "present up(v) then { x = v; } else { };"+rest, api.OK)
	within(t, "automaton state A { x = v; } until b then A until v > 1 continue A end;"+rest, api.OK)
	for _, wrong := range []string{"@1", "@v", "@c", "@(b, b)", "@two(1)", "b @+ 1", "@not v", "@0.5", "@i"} {
		within(t, "reset { x = v; } every "+wrong+";"+rest, api.ErrType)
		within(t, "present "+wrong+" then { x = v; } else { };"+rest, api.ErrType)
		within(t, "automaton state A { x = v; } until b then A until "+wrong+" then A until 1 then A end;"+rest, api.ErrType)
		within(t, "automaton state A { } state B { x = v; } until "+wrong+" continue A end;"+rest, api.ErrType)
	}
}

func TestReadInOrder(t *testing.T) {
	// 9.2: which one comes first.
	within(t, "reset { x = @b; } every 1;"+rest, api.ErrType)
	within(t, "reset { reset { x = v; } every @1; i = true; } every 1; b = true; c = A; d = C;", api.ErrType)
	within(t, "present @1 then { x = b; } else { x = c; };"+rest, api.ErrType)
	within(t, "present b then { x = @b; } else { x = c; };"+rest, api.ErrType)
	within(t, "present b then { x = 1; } else { x = @c; };"+rest, api.ErrType)
	within(t, "present b then { } else { present b then { x = @i; } else { }; }; i = b; b = true; c = A; d = C;", api.ErrType)
	within(t, "automaton state A { x = @b; } until 1 then A state B { x = c; } until 1 then B end;"+rest, api.ErrType)
	within(t, "automaton state A { x = 1; } until @1 then A until 2 then A state B { x = c; } until 1 then B end;"+rest, api.ErrType)
	within(t, "automaton state A { x = 1; } until b then A until @2 then A state B { x = c; } until 1 then B end;"+rest, api.ErrType)
	within(t, "automaton state A { x = 1; } state B { x = @c; } until 1 then B end;"+rest, api.ErrType)
	within(t, "automaton state A { } state B { } until @i then B end; x = b;"+rest, api.ErrType)
	within(t, "x = @b; i = true; b = true; c = A; d = C;", api.ErrType)
	within(t, "x = 1; i = @b; b = 1; c = 1; d = 1;", api.ErrType)
	tells(t, "node f() returns (y: bool) let y = @1; tel node main() returns (y: bool) let y = 1; tel", api.ErrType)
	tells(t, "node main() returns (y: bool) let y = true; tel node f() returns (y: bool) let y = @1; tel", api.ErrType)
}

func TestOfItsNode(t *testing.T) {
	// 9.1, 9.2: a name is that of the node in which it stands; nodes may be called ahead of where they stand.
	tells(t, "node f(x: bool) returns (y: int) let y = g(x); tel node g(y: bool) returns (x: int) let x = if y then 1 else 2; tel node main(y: rat) returns (x: rat) let x = y + rat(f(y > 1)); tel", api.OK)
	tells(t, "node f(x: bool) returns (y: int) let y = @g(x); tel node g(y: bool) returns (x: rat) let x = 1; tel node main() returns (x: rat) let x = 1; tel", api.ErrType)
	tells(t, "node f(x: bool) returns (y: int) let y = 1; tel node main(y: rat) returns (x: rat) let x = rat(@f(y)); tel", api.ErrType)
}
