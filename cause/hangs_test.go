package cause_test

import (
	"testing"

	"foliot/api"
)

// Each of these tests takes one of 13.2's clauses, by programs in which something hangs on itself by that clause alone, and by such as would, were the clause broader than it is.

func TestExamples(t *testing.T) {
	checks(t, "node main() returns (x: int, y: int) let x = y; y = x; tel", api.ErrCause)
	checks(t, "node main() returns (x: int, y: int) let x = 0 fby y; y = x + 1; tel", api.OK)
}

func TestExpressions(t *testing.T) {
	// An expression hangs on all that its parts hang on; a variable on what its equation asks.
	for _, e := range []string{
		"x", "-x", "x + 1", "1 - x", "2 * (3 * x)", "x div 2", "7 mod x", "floor(rat(x))", "floor(1 / rat(x))",
		"if x > 1 then 1 else 2", "if true then x else 2", "if true then 1 else x",
		"if v < rat(x) then 1 else 2", "if 1 <= x then 1 else 2", "if x >= 2 then 1 else 2", "if x == 1 then 1 else 2", "if 1 != x then 1 else 2",
		"if not (x > 1) then 1 else 2", "if true and x > 1 then 1 else 2", "if x > 1 or true then 1 else 2",
		"x -> 1", "1 -> x", "1 -> 2 -> x", "x fby 1", "(x + 1) fby 1 fby 2", "same(x)", "sum(1, x)", "sum(x, 1)", "one(1) + same(same(x))",
	} {
		circle(t, "x: int) let x = "+e+";")
		circle(t, "x: int, y: int) let x = y; y = "+e+";")
		none(t, "x: int, y: int) let y = "+e+"; x = 1;")
	}
	for _, e := range []string{"1", "1 -> pre x", "0 -> pre (x + x)", "0 fby x", "1 fby 2 fby x", "0 -> pre x + pre y", "if up(rat(x)) then 1 else 2", "if up(v - rat(x)) then y else 2", "one(x)", "late(x)", "one(same(x))", "0 -> pre same(x)", "y", "last z"} {
		none(t, "x: int, y: int, z: int init 0) let x = "+e+"; y = 2; z = x;")
	}
	circle(t, "x: int) var a: int; b: int; c: int; let c = b; x = 1; a = c; b = a;")
	none(t, "x: int) var a: int; b: int; c: int; let c = b; x = c; a = x; b = 1;")
	circle(t, "x: bool, y: t) let x = y == A; y = if x then B else A;")
	none(t, "x: rat, y: rat) let x = v; y = x + v;")
}

func TestTuples(t *testing.T) {
	// A name that stands with others is told by its own part.
	circle(t, "x: int, y: int) let (x, y) = (x, 1);")
	circle(t, "x: int, y: int) let (x, y) = (1, y);")
	circle(t, "x: int, y: int) let (x, y) = (y, x);")
	none(t, "x: int, y: int) let (x, y) = (1, x);")
	none(t, "x: int, y: int, z: int) let (z, x) = (0 fby x, z); y = x;")
}

func TestOutputs(t *testing.T) {
	// A call's output hangs on that variable of the node, whose inputs hang on the Args.
	none(t, "x: int, y: int) let (x, y) = both(1, x);")
	none(t, "x: int, y: int) let (x, y) = both(y, 1);")
	circle(t, "x: int, y: int) let (x, y) = both(x, 1);")
	circle(t, "x: int, y: int) let (x, y) = both(1, y);")
	circle(t, "x: int, y: int) let (x, y) = both(y, x);")
	circle(t, "x: int) let x = late(1) + one(2) + sum(one(x), x);")
	none(t, "x: int) let x = sum(one(x), late(x));")
	// Each call has things of its own.
	none(t, "x: int, y: int) let x = same(y); y = same(1);")
	none(t, "x: int) let x = same(same(same(1)));")
	circle(t, "x: int, y: int) let x = same(y); y = same(x);")
	none(t, "x: int, y: int) let x = same(y); y = late(x);")
	// What comes back by way of the caller hangs on itself, though in the node alone nothing does.
	none(t, "x: int, y: int) let (x, y) = both(late(y), x);")
	circle(t, "x: int, y: int) let (x, y) = both(same(y), x);")
}

func TestNodesThatAreCalled(t *testing.T) {
	// In main and in each node that is called, wherever the call stands; not in others.
	round := "node f() returns (b: int) var c: int; let b = 1; c = c; tel "
	main := func(want api.Errno, rest string) {
		t.Helper()
		checks(t, round+"node g() returns (b: int) let b = f(); tel hybrid main(v: rat) returns (x: rat init 0) let "+rest+" tel", want)
	}
	main(api.OK, "x = v;")
	for _, call := range []string{"f()", "g()", "-f()", "f() -> 1", "1 -> f()", "1 -> pre f()", "f() fby 1", "1 fby f()", "1 fby g() + 1", "if true then 1 else f()", "if v > rat(f()) then 1 else 2"} {
		main(api.ErrCause, "x = rat("+call+");")
		main(api.ErrCause, "der x = rat("+call+");")
		main(api.ErrCause, "der x = 1 init rat("+call+");")
		main(api.ErrCause, "der x = 1 reset rat("+call+") when true;")
		main(api.ErrCause, "der x = 1 reset 1 when ("+call+") > 0;")
		main(api.ErrCause, "reset { x = rat("+call+"); } every true;")
		main(api.ErrCause, "reset { x = 1; } every ("+call+") > 0;")
		main(api.ErrCause, "present ("+call+") > 0 then { x = 1; } else { };")
		main(api.ErrCause, "present true then { x = rat("+call+"); } else { };")
		main(api.ErrCause, "present true then { } else { x = rat("+call+"); };")
		main(api.ErrCause, "automaton state A { x = 1; } state B { x = rat("+call+"); } end;")
		main(api.ErrCause, "automaton state A { x = 1; } until ("+call+") > 0 then A end;")
		main(api.ErrCause, "automaton state A { x = 1; } state B { } until false then B until ("+call+") > 0 continue A end;")
	}
	checks(t, round+"node main() returns (x: int, y: int) let (x, y) = (1, f()); tel", api.ErrCause)
	checks(t, round+"node main() returns (x: int) let x = 1 fby g(f()); tel node g(a: int) returns (b: int) let b = 1; tel", api.ErrCause)
}

func TestGuards(t *testing.T) {
	// Whatever stands in a block of a present hangs on the condition.
	for _, q := range []string{
		"x = 1;", "(x, z) = (1, 2);", "x = one(1);", "x = starts();", "x = 0 -> pre x;", "x = last y;",
		"reset { x = 1; } every true;",
		"present true then { x = 1; } else { x = 2; };",
		"automaton state A { x = 1; } end;",
	} {
		circle(t, "x: int init 0, y: int init 0, z: int init 0) let present x > 0 then { "+q+" } else { }; y = 1;"+restOf(q))
		circle(t, "x: int init 0, y: int init 0, z: int init 0) let present x > 0 then { } else { "+q+" }; y = 1;"+restOf(q))
		circle(t, "x: int init 0, y: int init 0, z: int init 0) let present y > 0 then { present true then { "+q+" } else { }; } else { }; y = x;"+restOf(q))
		none(t, "x: int init 0, y: int init 0, z: int init 0) let present y > 0 then { "+q+" } else { "+q+" }; y = 1;"+restOf(q))
		none(t, "x: int init 0, y: int init 0, z: int init 0) let present last x > 0 then { "+q+" } else { }; y = 1;"+restOf(q))
	}
	circle(t, "x: rat init 0) let present x > 0 then { der x = 1; } else { };")
	circle(t, "x: rat init 0) let present x > 0 then { der x = 1; } else { der x = 2 init 1; };")
	none(t, "x: rat init 0) let present last x > 0 then { der x = 1; } else { };")
	none(t, "x: rat init 0) let present up(x - 1) then { der x = 1; } else { der x = 2; };")
	// Both blocks' names hang on what either block asks, each of its own alone.
	circle(t, "x: int, y: int) let present v > 0 then { x = y; y = 1; } else { y = x; x = 2; };")
	none(t, "x: int, y: int) let present v > 0 then { x = y; y = 1; } else { x = y; y = 2; };")
	// A condition hangs on the guard that its block stands in.
	circle(t, "x: bool init true, y: int init 0) let present y > 0 then { x = v > 0; present x then { y = 1; } else { }; } else { };")
	// What stands behind a present hangs on no guard of it.
	none(t, "x: int, y: int) let present y > 0 then { x = 1; } else { x = 2; }; y = 1;")
	none(t, "x: int, y: int) let present y > 0 then { x = 1; } else { x = 2; }; y = 0 fby x;")
	circle(t, "x: int, y: int) let present y > 0 then { x = 1; } else { x = 2; }; y = x fby 0;")
}

// restOf tells z, if an equation does not.
func restOf(q string) string {
	if q == "(x, z) = (1, 2);" {
		return ""
	}
	return " z = 1;"
}

func TestStates(t *testing.T) {
	// Whatever stands in a state hangs on whatever lets the automaton begin, and on the guard that that stands in; not on where it goes.
	none(t, "x: int) let automaton state A { x = 1; } until x > 0 then B state B { x = 2; } until x > 1 continue A end;")
	none(t, "x: int init 0) let automaton state A { x = 1 -> 2; } until x > 0 then B state B { } until x > 0 then A end;")
	none(t, "x: int init 0) let automaton state A { automaton state P { x = 1; } until x > 0 then P end; } until x > 0 then B state B { } end;")
	circle(t, "x: int init 0) let automaton state A { x = x; } state B { } end;")
	circle(t, "x: int, y: int) let automaton state A { x = y; y = 1; } state B { x = 1; y = 1; } state C { y = x; x = 1; } end;")
	circle(t, "x: int, y: int) let reset { automaton state A { x = 1; } end; } every x > 0; y = 1;")
	circle(t, "x: int, y: int) let reset { automaton state A { x = 1; } state B { x = 2; } end; } every y > 0; y = x;")
	circle(t, "x: int, y: int) let reset { present v > 0 then { automaton state A { x = 1; } end; } else { x = 1; }; } every y > 0; y = x;")
	circle(t, "x: int, y: int) let present y > 0 then { automaton state A { x = 1; } end; } else { x = 1; }; y = x;")
	circle(t, "x: int, y: int) let reset { automaton state A { automaton state P { x = 1; } end; } end; } every y > 0; y = x;")
	none(t, "x: int, y: int) let automaton state A { reset { x = 1; } every x > 0; } end; y = 1;")
	none(t, "x: int, y: int) let automaton state A { reset { automaton state P { y = 1; } end; } every x > 0; x = 2; } end;")
	circle(t, "x: int, y: int) let automaton state A { reset { automaton state P { y = 1; } end; } every x > 0; x = y; } end;")
	none(t, "x: int, y: int) let reset { x = 1; } every y > 0; automaton state A { y = x; } end;")
	none(t, "x: int, y: int) let reset { automaton state A { x = 1; } end; } every false fby x > 0; y = x;")
}

func TestScopesThatBegin(t *testing.T) {
	// pre, fby, -> hang on what lets their scope begin.
	for _, e := range []string{"0 -> 1", "0 -> pre x", "0 fby 1", "0 fby x", "starts()", "1 + (0 -> 1)", "if true then 2 else 0 fby 1", "one(1) + late(x)", "one(0 -> 1) + same(0 -> 1)"} {
		circle(t, "x: int) let reset { x = "+e+"; } every x > 0;")
		circle(t, "x: int, y: int) let reset { x = "+e+"; } every y > 0; y = x;")
		circle(t, "x: int, y: int) let reset { reset { x = "+e+"; } every v > 0; } every y > 0; y = x;")
		circle(t, "x: int, y: int) let reset { reset { x = "+e+"; } every y > 0; } every v > 0; y = x;")
		circle(t, "x: int, y: int) let reset { present v > 0 then { x = "+e+"; } else { x = 1; }; } every y > 0; y = x;")
		circle(t, "x: int, y: int) let automaton state A { reset { x = "+e+"; } every y > 0; y = x; } end;")
		none(t, "x: int) let x = "+e+"; reset { } every x > 0;")
		none(t, "x: int, y: int) let reset { y = "+e+"; } every x > 0; x = 1;")
		none(t, "x: int) let reset { x = "+e+"; } every false -> pre x > 0;")
		none(t, "x: int) let automaton state A { x = "+e+"; } until x > 0 then A end;")
		none(t, "x: int, y: int) let present v > 0 then { reset { y = 2; } every x > 0; x = "+e+"; } else { x = 1; y = 1; };")
	}
	circle(t, "x: int) let reset { x = 1 -> pre 2; } every x > 0;")
	circle(t, "x: int) let reset { x = if true then 1 else (2 -> 3); } every x > 0;")
	// What neither asks what was nor begins hangs on none.
	for _, e := range []string{"1", "floor(v)", "one(1)", "same(2)", "if up(v) then 1 else 2", "last x", "if v > 0 then last x else 2"} {
		none(t, "x: int init 0) let reset { x = "+e+"; } every x > 0;")
	}
	none(t, "x: int init 0) let reset { present v > 0 then { x = 1; } else { }; } every x > 0;")
	// A condition stands in the scope around its reset.
	none(t, "x: bool) let reset { x = false; } every x -> pre x;")
	none(t, "x: int) let reset { x = 1; } every (0 -> x) > 0;")
	circle(t, "x: int, y: int) let reset { reset { x = 1 -> 2; } every (0 -> 1) > 0; } every y > 0; y = x;")
	circle(t, "x: int, y: int) let reset { reset { x = 1 -> 2; } every x > 0; } every v > 0; y = x;")
}

func TestAroundCalls(t *testing.T) {
	// What lets a scope begin stands around its call, too; of calls within calls around each of them.
	deep := "node f() returns (b: int) let b = g(); tel node g() returns (b: int) let b = 0 -> 1; tel node h() returns (b: int) let reset { b = f(); } every true; tel "
	for _, call := range []string{"f()", "g()", "h()", "1 + f()", "if true then 1 else h()"} {
		checks(t, deep+"node main() returns (x: int) let reset { x = "+call+"; } every x > 0; tel", api.ErrCause)
		checks(t, deep+"node main() returns (x: int) let x = "+call+"; reset { } every x > 0; tel", api.OK)
		checks(t, deep+"node main() returns (x: int, y: int) let reset { x = "+call+"; } every y > 0; y = 1 fby x; tel", api.OK)
	}
	// A reset in the node is no concern of who calls it.
	inner := "node f(c: bool) returns (b: int) let reset { b = 1; } every c; tel node g(c: bool) returns (b: int) let reset { b = 0 -> 1; } every c; tel "
	checks(t, inner+"node main() returns (x: int) let x = f(x > 0); tel", api.OK)
	checks(t, inner+"node main() returns (x: int) let x = g(x > 0); tel", api.ErrCause)
	checks(t, inner+"node main() returns (x: int) let x = g(false -> pre x > 0); tel", api.OK)
	checks(t, inner+"node main() returns (x: int, y: int) let x = g(y > 0); y = 0 -> 1; tel", api.OK)
	// What a call is handed stands around it.
	checks(t, inner+"node main() returns (x: int) let reset { x = f(false -> true); } every x > 0; tel", api.OK)
	checks(t, inner+"node main() returns (x: int) let reset { x = g(false -> true); } every x > 0; tel", api.ErrCause)
}

func TestNodesThatBegin(t *testing.T) {
	// last, ders, and what stays as it was hang on what lets their node begin; not on other resets in it.
	main := func(want api.Errno, vars, body string) {
		t.Helper()
		f := "hybrid f(a: rat) returns (" + vars + ") let " + body + " tel "
		checks(t, f+"hybrid main(v: rat) returns (x: rat) let reset { x = f(v); } every x > 0; tel", want)
		checks(t, f+"hybrid g(a: rat) returns (x: rat) let x = f(a); tel hybrid main(v: rat) returns (x: rat, y: rat) let reset { x = g(v); } every y > 0; y = x; tel", want)
		checks(t, f+"hybrid main(v: rat) returns (x: rat) let x = f(v); reset { } every x > 0; tel", api.OK)
		checks(t, f+"hybrid main(v: rat) returns (x: rat) let reset { x = f(v); } every false -> pre x > 0; tel", api.OK)
		checks(t, f+"hybrid main(v: rat) returns (x: rat init 0) let present last x > 0 then { x = f(v); } else { x = 2; }; tel", api.OK)
	}
	main(api.OK, "b: rat init 0", "b = a;")
	main(api.ErrCause, "b: rat init 0", "b = last b;")
	main(api.ErrCause, "b: rat init 0", "b = if a > 0 then last b + 1 else a;")
	main(api.ErrCause, "b: rat init 0", "der b = 1;")
	main(api.ErrCause, "b: rat", "der b = 1 init 2;")
	main(api.ErrCause, "b: rat init 0", "reset { der b = 1; } every a > 0;")
	main(api.ErrCause, "b: rat init 0", "der b = a reset 2 when true;")
	main(api.ErrCause, "b: rat init 0", "present a > 0 then { der b = 1; } else { };")
	main(api.ErrCause, "b: rat init 0", "present a > 0 then { b = a; } else { };")
	main(api.ErrCause, "b: rat init 0", "present a > 0 then { } else { b = a; };")
	main(api.ErrCause, "b: rat init 0", "present a > 0 then { b = a; } else { b = 1; };")
	main(api.OK, "b: rat", "present a > 0 then { b = a; } else { b = 1; };")
	main(api.ErrCause, "b: rat init 0", "present a > 0 then { reset { b = a; } every true; } else { b = 1; };")
	main(api.OK, "b: rat init 0", "reset { b = a; } every a > 0;")
	main(api.ErrCause, "b: rat init 0", "automaton state A { b = a; } end;")
	main(api.ErrCause, "b: rat init 0", "automaton state A { } state B { b = a; } end;")
	main(api.OK, "b: rat init 0", "present a > 0 then { } else { }; reset { } every last b > 0; b = 1;")
	for _, call := range []string{"stays()", "same(stays())", "late(1) + stays()", "if v > 0 then stays() else same(1)"} {
		circle(t, "x: int) let reset { x = "+call+"; } every x > 0;")
		none(t, "x: int) let x = "+call+"; reset { } every x > 0;")
	}
	// In main nothing lets the node begin but its own beginning.
	for _, q := range []string{"x = last x;", "present last x > 0 then { x = 1; } else { };", "present last x > 0 then { x = last x; } else { x = 1; };"} {
		none(t, "x: int init 0) let reset { "+q+" } every x > 0;")
	}
	circle(t, "x: int init 0) let reset { automaton state A { x = last x; } end; } every x > 0;")
	none(t, "x: rat init 0) let reset { der x = 1; } every x > 0;")
	none(t, "x: rat init 0) let reset { der x = 1 reset 2 when v > 1; } every x > 0;")
	none(t, "x: rat init 0) let reset { present last x > 0 then { der x = 1; } else { }; } every x > 0;")
}

func TestDers(t *testing.T) {
	// A der hangs on its init, and then on what lets its scope begin; on its reset; not on how it goes on.
	circle(t, "x: rat) let der x = 1 init x;")
	circle(t, "x: rat init 0) let der x = 1 init x + 1;")
	circle(t, "x: rat init 0) let der x = 1 reset x when true;")
	circle(t, "x: rat init 0) let der x = 1 reset 0 when x > 1;")
	circle(t, "x: rat) let der x = 1 init 0 reset 0 when x > 1;")
	circle(t, "x: rat init 0, y: rat) let der x = 1 reset y when true; y = x;")
	none(t, "x: rat init 0) let der x = 1 reset 0 when up(x - 1);")
	none(t, "x: rat init 0) let der x = 1 reset last x when last x > 1;")
	none(t, "x: rat init 0) let der x = 1 init last x reset last x + 1 when up(x - 1);")
	none(t, "x: rat, y: rat) let der x = y init 0; y = if x > 3 then 0 else 1;")
	none(t, "x: rat init 0, y: rat init 0) let der x = y; present x > 0 then { y = x; } else { };")
	none(t, "x: rat, y: rat) let der x = 1 init 0; der y = 1 init x;")
	circle(t, "x: rat, y: rat) let der x = 1 init y; der y = 1 init x;")
	circle(t, "x: rat init 0) let reset { der x = 1 init 0; } every x > 0;")
	circle(t, "x: rat init 0) let reset { der x = 1 init 0 reset 2 when false; } every x > 0;")
	none(t, "x: rat init 0) let reset { der x = 0 -> 1; } every x > 0;")
	circle(t, "x: rat init 0) let reset { der x = 1 reset (0 -> 2) when false; } every x > 0;")
	circle(t, "x: rat init 0) let reset { der x = 1 reset 2 when false -> true; } every x > 0;")
	none(t, "x: rat init 0) let automaton state A { der x = 1 init 0; } until x > 1 then A end;")
	circle(t, "x: rat init 0) let automaton state A { reset { der x = 1 init 0; } every x > 0; } end;")
	none(t, "x: rat init 0) let automaton state A { reset { der x = 1; } every x > 0; } end;")
}
