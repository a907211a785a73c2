package flat_test

import (
	"strings"
	"testing"

	"foliot/api"
	"foliot/meaning"
)

// goes tells whether a flat program goes in some order.
func goes(f api.Flat) bool {
	_, ok := meaning.Flat(f, scriptOf("0 0 900"), 1)
	return ok
}

// causal asks whether a hybrid node main(v: rat) with these outputs and equations goes in some order; behind | stand other nodes.
func causal(t *testing.T, want bool, src string) {
	t.Helper()
	head, others, _ := strings.Cut(src, "|")
	p := program(t, others+" hybrid main(v: rat) returns ("+head+" tel")
	if got := goes(flattened(t, p)); got != want || meaning.Causal(p) != want {
		t.Errorf("%s: got %v, %v", src, got, !want)
	}
}

func TestCauses(t *testing.T) {
	// 12.5: what is causal (13) goes in some order.
	causal(t, false, "x: int, y: int) let x = y; y = x;")
	causal(t, true, "x: int, y: int) let x = 0 fby y; y = x + 1;")
	causal(t, false, "x: int) let x = x fby 0;")
	causal(t, true, "x: int) let x = 0 fby x;")
	causal(t, false, "x: int) let x = 0 -> x;")
	causal(t, true, "x: int) let x = 0 -> pre x;")
	causal(t, true, "x: int init 0) let x = last x;")
	causal(t, true, "x: rat) let der x = 1 init 0 reset 0 when up(x - 1);")
	causal(t, false, "x: rat) let der x = 1 init 0 reset 0 when x > 1;")
	causal(t, false, "x: rat) let der x = 1 init x;")
	causal(t, true, "x: rat, y: rat) let der x = y init 0; y = if x > 3 then 0 else 1;")
	causal(t, true, "x: int, y: int) let (x, y) = (y, 1);")
	// What lets a scope begin.
	causal(t, false, "x: int) let reset { x = 0 -> 1; } every x > 0;")
	causal(t, false, "x: int) let reset { x = 0 -> pre x; } every x > 0;")
	causal(t, false, "x: int) let reset { x = 0 fby 1; } every x > 0;")
	causal(t, true, "x: int) let reset { x = 0 -> pre x; } every false -> pre x > 0;")
	causal(t, true, "x: int) let reset { x = 1; } every x > 0;")
	causal(t, true, "x: int init 0) let reset { x = last x; } every x > 0;")
	causal(t, true, "b: bool) let reset { b = up(v); } every b;")
	causal(t, false, "x: rat init 0) let reset { der x = 1 init 0; } every x > 0;")
	causal(t, true, "x: rat init 0) let reset { der x = 1; } every x > 0;")
	causal(t, false, "x: int) let reset { automaton state A { x = 1; } end; } every x > 0;")
	causal(t, true, "x: int) let automaton state A { x = 1; } until x > 0 then A end;")
	causal(t, true, "x: int) let automaton state A { x = 1 -> 2; } until x > 0 then A end;")
	// Guards.
	causal(t, false, "x: int) let present x > 0 then { x = 1; } else { x = 2; };")
	causal(t, false, "x: int init 0, y: int) let present x > 0 then { x = 1; } else { }; y = 1;")
	causal(t, true, "x: int init 0, y: int) let present last x > 0 then { x = 1; } else { }; y = 1;")
	causal(t, true, "x: int, y: int) let present v > 0 then { x = y; y = 1; } else { y = 2; x = y; };")
	causal(t, false, "x: int, y: int) let present v > 0 then { x = y; y = 1; } else { y = x; x = 2; };")
	causal(t, false, "x: int, y: int) let present y > 0 then { x = 1 -> 2; } else { x = 2; }; y = x;")
	causal(t, true, "x: int, y: int) let reset { present v > 0 then { x = 1; } else { x = 2; }; } every x > 1; y = x;")
	// Calls.
	causal(t, false, "x: int) let x = f(x); | node f(a: int) returns (b: int) let b = a; tel")
	causal(t, true, "x: int) let x = f(x); | node f(a: int) returns (b: int) let b = 0 fby a; tel")
	causal(t, true, "x: int) let x = f(x); | node f(a: int) returns (b: int) let b = 1; tel")
	causal(t, true, "x: int, y: int) let (x, y) = f(y); | node f(a: int) returns (b: int, c: int) let b = a; c = 1; tel")
	causal(t, true, "x: int, y: int) let x = f(y); y = 1 fby f(x); | node f(a: int) returns (b: int) let b = a; tel")
	causal(t, false, "x: int, y: int) let x = f(y); y = f(x); | node f(a: int) returns (b: int) let b = a; tel")
	causal(t, false, "x: int) let x = 1 -> pre f(2); | node f(a: int) returns (b: int) var c: int; let b = c; c = b; tel")
	// What lets a node begin.
	causal(t, false, "x: int) let reset { x = f(); } every x > 0; | node f() returns (b: int init 0) let b = last b; tel")
	causal(t, false, "x: rat) let reset { x = f(); } every x > 0; | hybrid f() returns (b: rat init 0) let der b = 1; tel")
	causal(t, true, "x: int) let reset { x = f(); } every x > 0; | node f() returns (b: int init 0) let b = 1; tel")
	causal(t, true, "x: int) let reset { x = f(); } every x > 0; | node f() returns (b: int) let present true then { b = 1; } else { b = 2; }; tel")
	causal(t, false, "x: int) let reset { x = f(); } every x > 0; | node f() returns (b: int init 0) let present true then { b = 1; } else { b = 2; }; tel")
	causal(t, false, "x: int) let reset { x = f(); } every x > 0; | node f() returns (b: int) let b = g(); tel node g() returns (b: int) let b = 0 -> 1; tel")
}
