package flat_test

import "testing"

func TestExamples(t *testing.T) {
	// The document's examples of the whole, as far as they run, and the chapter's.
	saw := "hybrid main(v: rat) returns (x: rat) let der x = 1 init 0 reset 0 when up(x - 1); tel"
	runs(t, saw, "2 0 64", "0 0: 0; 1 0: 0; 2 0: 0; done 2")
	runs(t, saw, "5/2 0 64", "0 0: 0; 1 0: 0; 2 0: 0; done 5/2")
	runs(t, saw, "5/2 0 64 1/2 v 1", "0 0: 0; 1/2 0: 1/2; 1 0: 0; 2 0: 0; done 5/2")
	runs(t, "hybrid main() returns (x: rat init 0, b: bool) let automaton state A { der x = 1; b = false; } until up(x - 1) then B state B { der x = -1; b = true; } until up(-x) then A end; tel", "3 1 64", "0 0: 0 false; 1 0: 1 false; 1 1: 1 true; 2 0: 0 true; 2 1: 0 false; 3 0: 1 false; 3 1: 1 true; done 3")
	runs(t, "node main(v: rat) returns (x: rat) let x = 1 / v; tel", "3 5 64", "div 0 0")
	runs(t, "node main() returns (x: int) let automaton state A { x = 0; } until true then A end; tel", "3 2 64", "0 0: 0; 0 1: 0; 0 2: 0; cascade 0 2")
	runs(t, "hybrid main() returns (q: rat) var x: rat; let der x = 1 init 0 reset 0 when up(x - 1); q = 1 -> pre q / 3; tel", "20 5 8", "0 0: 1; 1 0: 1/3; 2 0: 1/9; 3 0: 1/27; 4 0: 1/81; 5 0: 1/243; big 6 0")
	runs(t, "node main() returns (x: int, y: int) let x = 0 fby y; y = x + 1; tel", "1 0 8", "0 0: 0 1; done 1")
}

func TestInputs(t *testing.T) {
	// 12.2: they are 0 at first; changes at 0 are made ahead of the first instant, those at one time in one event, the last one of an input counting; that may be the horizon.
	src := "node main(u: rat, v: rat) returns (a: rat, b: rat) let a = v; b = u; tel"
	runs(t, src, "0 0 64", "0 0: 0 0; done 0")
	runs(t, src, "2 0 64 0 v 1 1 v 2 1 u 3 1 v -4 2 u 5", "0 0: 1 0; 1 0: -4 3; 2 0: -4 5; done 2")
	// What is handed to a call goes on as the last instant told it, though it be a state of the caller's.
	runs(t, "hybrid main(v: rat) returns (b: bool) var x: rat; let der x = 1 init 0; b = f(x); tel hybrid f(a: rat) returns (b: bool) let b = up(a - 1); tel", "2 1 64 1/2 v 1 3/2 v 2", "0 0: false; 1/2 0: false; 3/2 0: false; 3/2 1: true; done 2")
}

func TestUps(t *testing.T) {
	// 12.2: an up that comes to nought passes at that event's first instant, together with others; what stands at nought or above does not pass.
	runs(t, "hybrid main() returns (a: bool, b: bool, c: bool, x: rat) let der x = 1 init 0; a = up(x - 1); b = up(2 * x - 2); c = up(x); tel", "3 0 64", "0 0: false false false 0; 1 0: true true false 1; done 3")
	// One that jumps passes at an instant more.
	runs(t, "hybrid main(v: rat) returns (b: bool, n: int) let b = up(v - 1); n = 0 -> pre n + 1; tel", "9 1 64 1 v 2 2 v 0 3 v 1", "0 0: false 0; 1 0: false 1; 1 1: true 2; 2 0: false 3; 3 0: false 4; 3 1: true 5; done 9")
	runs(t, "hybrid main(v: rat) returns (b: bool) let b = up(v - 1); tel", "9 0 64 1 v 2", "0 0: false; 1 0: false; cascade 1 0")
	runs(t, "hybrid main(v: rat) returns (b: bool, x: rat) let der x = 1 init 0 reset 5 when v > 0; b = up(x - 4); tel", "3 1 64 1 v 1 2 v 0", "0 0: false 0; 1 0: false 5; 1 1: true 5; 2 0: false 6; done 3")
	// It is asked where it is active, and jumps only if it was so at the instant ahead.
	runs(t, "hybrid main(v: rat) returns (b: bool init false, x: rat) let der x = 1 init 0; present v > 0 then { b = up(x - 1); } else { b = false; }; tel", "3 0 64", "0 0: false 0; done 3")
	runs(t, "hybrid main(v: rat) returns (b: bool init false, x: rat) let der x = 1 init 0; present v > 0 then { b = up(x - 1); } else { b = false; }; tel", "3 0 64 1/2 v 1", "0 0: false 0; 1/2 0: false 1/2; 1 0: true 1; done 3")
	runs(t, "hybrid main(v: rat) returns (b: bool init false, x: rat) let der x = 1 init 0; present v > 0 then { b = up(x - 1); } else { b = false; }; tel", "3 0 64 1/2 v 1 3/4 v 0 2 v 1", "0 0: false 0; 1/2 0: false 1/2; 3/4 0: false 3/4; 2 0: false 2; done 3")
	// Where two calls stand, each has ups of its own.
	runs(t, "hybrid main(v: rat) returns (a: int, b: int) let a = f(1); b = f(2); tel hybrid f(by: rat) returns (n: int) var x: rat; c: bool; let der x = by init 0 reset 0 when c; c = up(x - 1); n = 0 -> if c then pre n + 1 else pre n; tel", "1 0 64", "0 0: 0 0; 1/2 0: 0 1; 1 0: 1 2; done 1")
	// An up in a state's condition is of that state.
	runs(t, "hybrid main(v: rat) returns (n: int, x: rat) let der x = 1 init 0; automaton state A { n = 0; } until up(x - 1) then B state B { n = 1; } until up(x - 2) then A end; tel", "3 1 64", "0 0: 0 0; 1 0: 0 1; 1 1: 1 1; 2 0: 1 2; 2 1: 0 2; done 3")
}

func TestLines(t *testing.T) {
	// 12.2: what an up asks goes on as its parts do.
	at := func(asks, when string) {
		t.Helper()
		src := "hybrid main(v: rat) returns (b: bool) var x: rat; y: rat; let der x = 1 init 0; der y = -2 init 0; b = up(" + asks + "); tel"
		runs(t, src, "9 0 64", "0 0: false; "+when+"done 9")
	}
	at("x - 1", "1 0: true; ")
	at("x + -5", "5 0: true; ")
	at("1 - x", "")
	at("-y - 3", "3/2 0: true; ")
	at("-(x + y) - 1", "1 0: true; ")
	at("x + y - 1", "")
	at("x - y - 1", "1/3 0: true; ")
	at("3 * x - 1", "1/3 0: true; ")
	at("x * 3 - 1", "1/3 0: true; ")
	at("-3 * y - 1", "1/6 0: true; ")
	at("y * -3 - 1", "1/6 0: true; ")
	at("(x - 1) * (2 + 1) / 2", "1 0: true; ")
	at("(2 - 3) * (1 + y)", "1/2 0: true; ")
	at("x / 3 - 1", "3 0: true; ")
	at("(x - 1) / -3", "")
	at("if v == 0 then x - 1 else x - 2", "1 0: true; ")
	at("if v != 0 then x - 1 else x - 2", "2 0: true; ")
	at("2 * (if v == 0 then x else y) - 1", "1/2 0: true; ")
	at("2 * (if v != 0 then x else 3 - y) - 12", "3/2 0: true; ")
	at("(if v == 0 then 1 else 1 / 2) * x - rat(7 div 2) * rat(floor(1.5))", "3 0: true; ")
	at("v - 1", "")
	at("-1", "")
	// What a state was ahead of the instant stays.
	runs(t, "hybrid main() returns (x: rat init 0, b: bool) let der x = 1; b = up(x - last x - 1); tel", "3 0 64", "0 0: 0 false; 1 0: 1 true; 2 0: 2 true; 3 0: 3 true; done 3")
	// So do slopes, conditions and inputs, till an instant tells them anew.
	runs(t, "hybrid main(v: rat) returns (x: rat, b: bool) let der x = v init 0; b = up((v + 1) * x - 6); tel", "9 0 64 1 v 2 2 v 1", "0 0: 0 false; 1 0: 0 false; 2 0: 2 true; 3 0: 3 true; done 9")
}

func TestFaults(t *testing.T) {
	node := func(eqs string) string { return "hybrid main(v: rat) returns (x: rat) let " + eqs + " tel" }
	// 12.1: both parts of an if, of ->, of fby are done, as is what pre keeps, and all of a der.
	for _, e := range []string{"if v > 0 then 1 / v else 0", "if v == 0 then 0 else 1 / v", "1 -> 1 / v", "1 / v -> 1", "1 fby 1 / v", "1 -> pre (1 / v)", "rat(1 div floor(v))", "rat(1 mod floor(v))"} {
		runs(t, node("x = "+e+";"), "9 0 64", "div 0 0")
	}
	runs(t, node("x = 1 / v -> 1;"), "9 0 64 0 v 1 2 v 0", "0 0: 1; div 2 0")
	for _, q := range []string{"der x = 1 / v init 0;", "der x = 1 init 1 / v;", "der x = 1 init 0 reset 1 / v when false;", "der x = 1 init 0 reset 1 when 1 / v > 0;"} {
		runs(t, node(q), "9 0 64", "div 0 0")
	}
	runs(t, node("der x = 1 init 1 / v;"), "9 0 64 0 v 2 2 v 1 3 v 0", "0 0: 1/2; 2 0: 5/2; div 3 0")
	// What is not active is not done.
	runs(t, node("present v > 0 then { x = 1 / v; } else { x = 0; };"), "9 0 64 1 v 2", "0 0: 0; 1 0: 1/2; done 9")
	runs(t, node("present v > 0 then { x = 1 / (v - 1); } else { x = 0; };"), "9 0 64 1 v 1", "0 0: 0; div 1 0")
	runs(t, node("present v > 0 then { x = f(v); } else { x = 0; };")+" node f(a: rat) returns (x: rat) let x = 100 / a; tel", "9 0 6 ", "0 0: 0; done 9")
	// A number that is computed, that a literal says, or that an input has, may have so many bits.
	runs(t, node("x = 7;"), "9 0 3", "0 0: 7; done 9")
	runs(t, node("x = 8;"), "9 0 3", "big 0 0")
	runs(t, node("x = -8;"), "9 0 3", "big 0 0")
	runs(t, node("x = 0.125;"), "9 0 3", "big 0 0")
	runs(t, node("x = v;"), "9 0 3 1 v -7 2 v 1/7 3 v 1/8", "0 0: 0; 1 0: -7; 2 0: 1/7; big 3 0")
	runs(t, node("x = 0;"), "9 0 3 1 v 8", "0 0: 0; big 1 0")
	for _, e := range []string{"v + v", "v - (-v)", "v * v", "v / 0.5", "rat(floor(v) + floor(v))", "if true then 0 else v + v"} {
		runs(t, node("x = "+e+";"), "1 0 3 1 v 5", "0 0: 0; big 1 0")
	}
	for _, e := range []string{"v + 1", "1 / (v + 1)", "rat(floor(v) div 2)", "v - 9"} {
		runs(t, "node main(v: rat) returns (b: bool) let b = "+e+" > v; tel", "0 0 1 0 v 1", "big 0 0")
	}
	for _, e := range []string{"v * v", "-v", "rat(floor(v))", "v / v", "v - v"} {
		runs(t, "node main(v: rat) returns (b: bool) let b = "+e+" > v; tel", "0 0 1 0 v 1", "0 0: false; done 0")
	}
	// That of an Init may have more, till something is computed of it.
	big := "hybrid main(v: rat) returns (x: rat init 100, y: int init -100) let "
	runs(t, big+"x = last x; y = last y; tel", "9 0 3", "0 0: 100 -100; done 9")
	runs(t, big+"der x = 0; y = f(last y); tel node f(a: int) returns (b: int) let b = if a == a then a else 0; tel", "9 0 3", "0 0: 100 -100; done 9")
	runs(t, big+"x = rat(last y); y = last y; tel", "9 0 3", "big 0 0")
	runs(t, big+"x = rat(floor(last x)); y = last y; tel", "9 0 3", "big 0 0")
	runs(t, big+"x = -(last x); y = last y; tel", "9 0 3", "big 0 0")
	// What an up asks counts, and by what that goes on.
	runs(t, node("der x = 7 init 0 reset 0 when up(x - 7);"), "2 0 3", "0 0: 0; 1 0: 0; 2 0: 0; done 2")
	runs(t, node("der x = 7 init 0 reset 0 when up(2 * x - 7);"), "2 0 3", "big 0 0")
	runs(t, node("der x = 7 init 0 reset 0 when up(x * 2 - 7);"), "2 0 3", "big 0 0")
	runs(t, node("der x = 7 init 0 reset 0 when up(x + x - 7);"), "2 0 3", "big 0 0")
	runs(t, node("der x = 7 init 0 reset 0 when up(-x - x - 7);"), "2 0 3", "big 0 0")
	runs(t, node("der x = 7 init 0 reset 0 when up(x / 0.5 - 7);"), "2 0 3", "big 0 0")
	runs(t, node("der x = 7 init 0 reset 0 when up(if true then x else x / 0.5);"), "2 0 3", "big 0 0")
	runs(t, node("der x = 7 init 0 reset 0 when up(x / v - 7);"), "2 0 3", "div 0 0")
	// A division by nought counts ahead of what is too big.
	runs(t, "hybrid main(v: rat) returns (x: rat, b: bool) let x = 100; b = up(1 / v); tel", "9 0 3", "div 0 0")
}

func TestNothing(t *testing.T) {
	node := func(eqs string) string { return "hybrid main(v: rat) returns (x: rat init 0) let " + eqs + " tel" }
	// 12.1: an operation on nothing gives nothing, so that nothing divides by nought.
	for _, e := range []string{"100 / (if 100 > v then 0 else 0)", "1 / (100 * v)", "1 / (if not (100 > v) or true then v else v)", "1 / (if 100 == v then v else v)"} {
		runs(t, node("x = "+e+";"), "9 0 3", "big 0 0")
	}
	runs(t, node("x = 1 / (if true then v else 100);"), "9 0 3", "div 0 0")
	// What is nothing is not true: the second block is active, a der stays as it was, nothing begins.
	runs(t, node("present 100 > v then { x = 1; } else { x = 1 / v; };"), "9 0 3", "div 0 0")
	runs(t, node("present 100 > v then { x = 1 / v; } else { x = 1; };"), "9 0 3", "big 0 0")
	runs(t, "hybrid main(v: rat) returns (x: rat init 0, y: rat) let der x = 0 reset 1 when 100 > v; y = 1 / x; tel", "9 0 3", "div 0 0")
	runs(t, "hybrid main(v: rat) returns (x: rat, y: rat) let reset { x = 1 -> 0; } every v + 3 > 0; y = 1 / (1 -> x); tel", "9 0 3 1 v 5", "0 0: 1 1; div 1 0")
}

func TestValues(t *testing.T) {
	one := func(ty, e, want string) {
		t.Helper()
		runs(t, "type c = { R, G }; type d = { B }; node main(v: rat) returns (x: "+ty+") let x = "+e+"; tel", "0 0 64 0 v -3/2", "0 0: "+want+"; done 0")
	}
	for e, want := range map[string]string{"7 div 2": "3", "-7 div 2": "-4", "7 div -2": "-4", "-7 div -2": "3", "7 mod 2": "1", "-7 mod 2": "1", "7 mod -2": "-1", "-7 mod -2": "-1", "floor(v)": "-2", "floor(-v)": "1", "007": "7", "-(-3)": "3", "2 - 3 * 4": "-10", "if v < 0 then 1 else 2": "1"} {
		one("int", e, want)
	}
	for e, want := range map[string]string{"v": "-3/2", "v / 3": "-1/2", "1 / 2 + 1 / 3": "5/6", "1.50": "3/2", "-0.5": "-1/2", "rat(7 div 2) / 2": "3/2", "rat(floor(v)) - v": "-1/2", "0.1 * 10": "1", "v * v": "9/4"} {
		one("rat", e, want)
	}
	for e, want := range map[string]string{"true": "true", "not true": "false", "true and false": "false", "true and true": "true", "false or true": "true", "false or false": "false", "v < -1.5": "false", "v <= -1.5": "true", "v > -1.6": "true", "v >= 0": "false", "v == -3 / 2": "true", "v != -3 / 2": "false", "1 == 2": "false", "1 != 2": "true", "true == true": "true", "true == false": "false", "true != false": "true", "R == R": "true", "R == G": "false", "R != G": "true", "R != R": "false"} {
		one("bool", e, want)
	}
	for e, want := range map[string]string{"R": "R", "if v > 0 then R else G": "G", "G -> R": "G", "R fby G": "R"} {
		one("c", e, want)
	}
	// An Init is a literal of any type, with a - or without.
	runs(t, "type c = { R, G }; node main(v: rat) returns (a: c init G, b: bool init true, d: bool init false, e: int init -3, f: rat init 0.5, g: rat init -2) let present false then { (a, b, d, e) = (R, true, true, 1); f = v; g = v; } else { }; tel", "1 0 64 1 v 0", "0 0: G true false -3 1/2 -2; 1 0: G true false -3 1/2 -2; done 1")
	// States are told apart by their names, which an enum's constructors may have too.
	runs(t, "type c = { R, G }; node main(v: rat) returns (a: c) let automaton state R { a = G; } until v > 0 then G state G { a = R; } end; tel", "1 1 1 1 v 1", "0 0: G; 1 0: G; 1 1: R; done 1")
}
