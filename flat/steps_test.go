package flat_test

import (
	"strconv"
	"strings"
	"testing"
)

// steps asks what a node main(v: rat) with these outputs and equations does, when v is one number behind the other at the times 0, 1 and so on, one instant each. Behind | stand other nodes.
func steps(t *testing.T, src, ins, outs string) {
	t.Helper()
	head, others, _ := strings.Cut(src, "|")
	vars, eqs, _ := strings.Cut(head, "let")
	src = others + " hybrid main(v: rat) returns (" + strings.TrimSpace(vars) + "let" + eqs + "tel"
	in, out := strings.Fields(ins), strings.Fields(outs)
	script := strconv.Itoa(len(in)-1) + " 0 64"
	var want []string
	for i, v := range in {
		at := strconv.Itoa(i)
		script += " " + at + " v " + v
		want = append(want, at+" 0: "+strings.ReplaceAll(out[i], ",", " "))
	}
	runs(t, src, script, strings.Join(append(want, "done "+strconv.Itoa(len(in)-1)), "; "))
}

func TestRemembered(t *testing.T) {
	// 12.1: ->, fby, pre.
	steps(t, "n: int) let n = 0 -> pre n + 1;", "0 0 0 0", "0 1 2 3")
	steps(t, "n: int) let n = 1 fby n + n;", "0 0 0 0", "1 2 4 8")
	steps(t, "x: rat) let x = v fby v;", "3 4 5", "3 3 4")
	steps(t, "x: rat) let x = v -> pre v;", "3 4 5", "3 3 4")
	steps(t, "x: int) let x = 1 -> 2 -> 3;", "0 0 0", "1 3 3")
	steps(t, "x: int) let x = 0 fby 1 fby 2;", "0 0 0 0", "0 1 2 2")
	// Both parts of an if are always done, so that a pre in one goes on.
	steps(t, "x: rat) let x = -1 -> if v > 0 then pre v else 0;", "5 0 7 1", "-1 0 0 7")
	// At one instant all is told at once, however the equations stand.
	steps(t, "x: rat, y: rat, z: rat) let z = y + 1; y = x + 1; x = v;", "1 5", "1,2,3 5,6,7")
	steps(t, "x: rat, y: rat) let x = 0 fby y; y = v + x;", "1 2 3", "0,1 1,3 3,6")
}

func TestLast(t *testing.T) {
	// 12.1: what a variable was at the last instant of its node.
	steps(t, "x: rat init 7) let x = last x + v;", "1 2 3", "8 10 13")
	steps(t, "x: rat init -0.5, y: rat) let y = last x; x = v;", "1 2 3", "1,-1/2 2,1 3,2")
	steps(t, "x: bool init true, y: bool) let y = last x; x = v > 0;", "-1 2 3", "false,true true,false true,true")
	// Not of a block: what pre tells there is of the block's last instant.
	steps(t, "x: rat init 0, y: rat init 9) let y = v; present v > 0 then { x = last y; } else { };", "1 -2 3", "9,1 9,-2 -2,3")
	steps(t, "x: rat init 0, y: rat init 9) let y = v; present v > 0 then { x = 0 -> pre y; } else { };", "1 -2 3", "0,1 0,-2 1,3")
	// A reset within the node does not let the node begin; one around its call does.
	steps(t, "x: int init 0) let reset { x = last x + 1; } every v > 0;", "0 1 1 0", "1 2 3 4")
	steps(t, "x: int) let reset { x = f(); } every v > 0; | node f() returns (x: int init 5) let x = last x + 1; tel", "0 0 1 0 1 1", "6 7 6 7 6 6")
	// A node that is not active has no instant; then it goes on, or begins, if it was let begin meanwhile.
	steps(t, "x: int init 0) let present v > 0 then { x = f(); } else { }; | node f() returns (x: int init 5) let x = last x + 1; tel", "1 0 1 0 0 1", "6 6 7 7 7 8")
	steps(t, "x: int init 0) let reset { present v > 0 then { x = f(); } else { }; } every v < 0; | node f() returns (x: int init 5) let x = last x + 1; tel", "1 1 0 1 -1 0 1 1", "6 7 7 8 8 8 6 7")
	// Of a der: what it is ahead of the instant.
	runs(t, "hybrid main() returns (x: rat init 5, y: rat) let der x = 1 init 0 reset 0 when up(x - 1); y = last x; tel", "2 0 64", "0 0: 0 5; 1 0: 0 1; 2 0: 0 1; done 2")
}

func TestCalls(t *testing.T) {
	count := "| node count(from: int, by: int) returns (n: int) let n = from -> pre n + by; tel"
	// 12.1: each call is a node of its own.
	steps(t, "a: int, b: int) let a = count(0, 1); b = count(10, 2);"+count, "0 0 0", "0,10 1,12 2,14")
	steps(t, "a: int) let a = count(0, 1) + count(10, 2);"+count, "0 0 0", "10 13 16")
	steps(t, "a: int) let a = count(count(1, 1), count(5, 5));"+count, "0 0 0", "1 11 26")
	// It is in the caller's scope: both parts of an if, of ->, of fby are always done.
	steps(t, "a: int) let a = if v > 0 then count(0, 1) else count(10, 1);"+count, "0 1 1 0", "10 1 2 13")
	steps(t, "a: int) let a = 9 -> count(0, 1);"+count, "0 0 0", "9 1 2")
	steps(t, "a: int) let a = 9 fby count(0, 1);"+count, "0 0 0", "9 0 1")
	steps(t, "a: int) let a = 9 -> pre count(0, 1);"+count, "0 0 0", "9 0 1")
	// It begins when that scope begins.
	steps(t, "a: int init 0) let present v > 0 then { a = count(1, 1); } else { };"+count, "0 1 0 1 1", "0 1 1 2 3")
	steps(t, "a: int) let reset { a = count(1, 1); } every v > 0;"+count, "0 0 1 0 0", "1 2 1 2 3")
	steps(t, "a: int) let reset { a = twice(); } every v > 0; | node twice() returns (x: int) let x = 2 * count(1, 1); tel "+count[1:], "0 0 1 0 0", "2 4 2 4 6")
	// Outputs in their order, inputs in theirs; a call's condition is of the call that stands around it.
	steps(t, "a: rat, b: bool, c: rat) let (a, b, c) = f(v, 2 * v, v > 1); | node f(x: rat, y: rat, c: bool) returns (s: rat, n: bool, d: rat) let d = x - y; s = x + y; n = not c; tel", "1 2", "3,true,-1 6,false,-2")
	steps(t, "a: rat, b: rat) let (b, a) = (v, v + 1);", "1 2", "2,1 3,2")
	steps(t, "x: int) let x = f(v > 0); | node f(c: bool) returns (x: int) let reset { x = 0 -> pre x + 1; } every c; tel", "0 0 1 0", "0 1 0 1")
}

func TestReset(t *testing.T) {
	// 12.1: all scopes in the block begin, if the condition is true; what stands around it does not.
	steps(t, "a: int, b: int) let reset { a = 0 -> pre a + 1; } every v > 0; b = 0 -> pre b + 1;", "0 0 1 0 1 1 0", "0,0 1,1 0,2 1,3 0,4 0,5 1,6")
	steps(t, "a: int, b: int) let reset { a = 0 -> pre a + 1; reset { b = 0 -> pre b + 1; } every v == 1; } every v == 2;", "0 0 1 0 2 0 1", "0,0 1,1 2,0 3,1 0,0 1,1 2,0")
	steps(t, "a: int) let reset { a = 5 fby a + 1; } every v > 0;", "0 0 1 0", "5 6 5 6")
	steps(t, "a: int init 0) let reset { present v < 2 then { a = 0 -> pre a + 1; } else { }; } every v > 0;", "0 0 2 0 0 1 0", "0 1 1 0 1 0 1")
	// What stands in a block that is not active resets nothing, whatever its condition may be.
	steps(t, "a: int init 9, b: bool) let b = v >= 1; present v < 2 then { reset { a = 0 -> pre a + 1; } every b; } else { };", "0 0 2 0 1 0", "0,false 1,false 1,true 2,false 0,true 1,false")
	steps(t, "a: int init 9) let present v < 2 then { reset { a = 0 -> pre a + 1; } every v >= 1; } else { };", "0 0 2 0 1 0", "0 1 1 2 0 1")
	// A condition may be of what was; it stands in the scope around the block.
	steps(t, "a: int) let reset { a = 0 -> pre a + 1; } every false -> pre a == 2;", "0 0 0 0 0", "0 1 2 0 1")
	// What begins is in its first state, and so is all in that.
	steps(t, "a: int) let reset { automaton state A { a = 0 -> pre a + 1; } until v == 2 continue B state B { a = 10 -> pre a + 1; } end; } every v == 1;", "0 0 0 1 0", "0 1 2 0 1")
}

func TestPresent(t *testing.T) {
	// 12.1: one of two blocks is active; each goes by its own instants.
	steps(t, "a: int) let present v > 0 then { a = 0 -> pre a + 1; } else { a = 10 -> pre a + 10; };", "1 1 0 1 0 0", "0 1 10 2 20 30")
	steps(t, "a: int, n: int) let n = 0 -> pre n + 1; present v > 0 then { a = n fby n; } else { a = -1; };", "0 1 0 1 1", "-1,0 1,1 -1,2 1,3 3,4")
	// What the active one does not tell stays as it was; at first it is what it begins with.
	steps(t, "a: int init 7, b: int init 8) let present v > 0 then { a = 1; } else { b = last b + 1; };", "0 1 0 0 1", "7,9 1,9 1,10 1,11 1,11")
	steps(t, "a: rat init 7) let present v > 0 then { present v > 1 then { a = v; } else { }; } else { a = 0; };", "1 2 1 0 1", "7 2 2 0 0")
	// One scope is not another's: begun in one, not in the other.
	steps(t, "a: bool, b: bool init false) let a = true -> false; present v > 0 then { b = true -> false; } else { b = false; };", "0 0 1 1 0 1", "true,false false,false false,true false,false false,false false,false")
	// Blocks may tell more than one variable, by one equation or more.
	steps(t, "a: rat, b: rat) let present v > 0 then { (a, b) = (v, 0); } else { b = v; a = 0; };", "1 -1", "1,0 0,-1")
}

func TestAutomaton(t *testing.T) {
	auto := func(trans string) string {
		return "a: int) let automaton state A { a = 0 -> pre a + 1; } until v == 1 " + trans + " B until v == 2 " + trans + " C state B { a = 10 -> pre a + 1; } until v == 3 " + trans + " A state C { a = 20 -> pre a + 1; } until v == 3 " + trans + " A end;"
	}
	// 12.1: at first it is in the first state; the first condition that is true tells where it goes. With then all there begins; with continue it goes on. An instant at which it goes asks for one more.
	all := "9 5 64 1 v 0 2 v 1 3 v 0 4 v 3 5 v 0 6 v 2 7 v 0 8 v 3 9 v 0"
	runs(t, "node main(v: rat) returns ("+auto("then")+" tel", all, "0 0: 0; 1 0: 1; 2 0: 2; 2 1: 10; 3 0: 11; 4 0: 12; 4 1: 0; 5 0: 1; 6 0: 2; 6 1: 20; 7 0: 21; 8 0: 22; 8 1: 0; 9 0: 1; done 9")
	runs(t, "node main(v: rat) returns ("+auto("continue")+" tel", all, "0 0: 0; 1 0: 1; 2 0: 2; 2 1: 10; 3 0: 11; 4 0: 12; 4 1: 3; 5 0: 4; 6 0: 5; 6 1: 20; 7 0: 21; 8 0: 22; 8 1: 6; 9 0: 7; done 9")
	// To itself it goes likewise.
	runs(t, "node main(v: rat) returns (a: int) let automaton state A { a = 0 -> pre a + 1; } until v == 1 and a < 3 continue A until v == 2 and a > 1 then A end; tel", "3 5 64 1 v 1 2 v 2", "0 0: 0; 1 0: 1; 1 1: 2; 1 2: 3; 2 0: 4; 2 1: 0; done 3")
	// A state's condition is in its scope; so is what an up of it asks.
	runs(t, "node main(v: rat) returns (a: int) let automaton state A { a = 0; } until false -> pre a == 0 then B state B { a = 1; } until false -> true then A end; tel", "1 3 64 1 v 1", "0 0: 0; 1 0: 0; 1 1: 1; done 1")
	// All conditions of the state are done, those behind one that is true, too.
	runs(t, "node main(v: rat) returns (a: int) let automaton state A { a = 0; } until true then A until 1 / v > 0 then A end; tel", "1 3 64", "div 0 0")
	runs(t, "node main(v: rat) returns (a: int) let automaton state A { a = 0; } until v > 0 then B state B { a = 1 div 0; } end; tel", "1 3 64 1 v 1", "0 0: 0; 1 0: 0; div 1 1")
	// What a state does not tell stays as it was.
	runs(t, "node main(v: rat) returns (a: rat init 4, b: rat init 5) let automaton state A { a = v; } until v > 0 then B state B { b = v; } until v < 0 then A end; tel", "4 5 64 1 v 1 2 v 2 3 v -1 4 v -2", "0 0: 0 5; 1 0: 1 5; 1 1: 1 1; 2 0: 1 2; 3 0: 1 -1; 3 1: -1 -1; 4 0: -2 -1; done 4")
	// An automaton within a state: where it was, if that goes on; in its first state, if that begins.
	inner := func(trans string) string {
		return "node main(v: rat) returns (a: int) let automaton state A { automaton state P { a = 0 -> pre a + 1; } until v == 5 then Q state Q { a = 10 -> pre a + 1; } end; } until v == 1 then B state B { a = -1; } until v == 2 " + trans + " A end; tel"
	}
	runs(t, inner("then"), "6 5 64 1 v 5 2 v 0 3 v 1 4 v 2 5 v 0", "0 0: 0; 1 0: 1; 1 1: 10; 2 0: 11; 3 0: 12; 3 1: -1; 4 0: -1; 4 1: 0; 5 0: 1; done 6")
	runs(t, inner("continue"), "6 5 64 1 v 5 2 v 0 3 v 1 4 v 2 5 v 0", "0 0: 0; 1 0: 1; 1 1: 10; 2 0: 11; 3 0: 12; 3 1: -1; 4 0: -1; 4 1: 13; 5 0: 14; done 6")
	// An automaton whose scope is not active for a time goes on where it was, and what it went to begins then.
	runs(t, "node main(v: rat) returns (a: int init 0) let present v < 10 then { automaton state A { a = 1 fby a + 1; } until v == 1 then B state B { a = 10 fby a + 10; } until v == 2 then B end; } else { }; tel", "7 0 64 1 v 0", "0 0: 1; 1 0: 2; done 7")
	runs(t, "node main(v: rat) returns (a: int init 0, n: int) let n = 0 -> pre n + 1; present n mod 2 == 0 then { automaton state A { a = 1 fby a + 1; } until v == 1 then B state B { a = 10 fby a + 10; } until v == 1 then B end; } else { }; tel", "3 3 64 1 v 1 2 v 0", "0 0: 1 0; 1 0: 1 1; 2 0: 2 2; done 3")
	runs(t, "node main(v: rat) returns (a: int init 0, n: int) let n = 0 -> pre n + 1; present n mod 2 == 0 then { automaton state A { a = 1 fby a + 1; } until v == 1 then B state B { a = 10 fby a + 10; } end; } else { }; tel", "5 3 64 1 v 0 2 v 1 3 v 0 4 v 1", "0 0: 1 0; 1 0: 1 1; 2 0: 2 2; 2 1: 2 3; 3 0: 10 4; 4 0: 10 5; done 5")
	// Where it goes by then, all scopes in the state begin, and so do those that are not active at that instant.
	quiet := func(trans string) string {
		return "node main(v: rat) returns (a: int init 0) let automaton state A { present v < 3 then { a = 0 -> pre a + 1; } else { }; } until v == 4 then B state B { } until v == 5 " + trans + " A end; tel"
	}
	runs(t, quiet("then"), "5 5 64 1 v 1 2 v 4 3 v 5 4 v 1 5 v 2", "0 0: 0; 1 0: 1; 2 0: 1; 2 1: 1; 3 0: 1; 3 1: 1; 4 0: 0; 5 0: 1; done 5")
	runs(t, quiet("continue"), "5 5 64 1 v 1 2 v 4 3 v 5 4 v 1 5 v 2", "0 0: 0; 1 0: 1; 2 0: 1; 2 1: 1; 3 0: 1; 3 1: 1; 4 0: 2; 5 0: 3; done 5")
}

func TestDers(t *testing.T) {
	// 12.1: a state that goes on begins with its init, else with its variable's.
	runs(t, "hybrid main(v: rat) returns (x: rat init 5) let der x = 2; tel", "3 0 64 1 v 0 5/2 v 0", "0 0: 5; 1 0: 7; 5/2 0: 10; done 3")
	runs(t, "hybrid main(v: rat) returns (x: rat init 5) let der x = 2 init v + 1; tel", "3 0 64 0 v 3 1 v 0 5/2 v 0", "0 0: 4; 1 0: 6; 5/2 0: 9; done 3")
	// It goes on by what its slope is at the instant.
	runs(t, "hybrid main(v: rat) returns (x: rat init 0) let der x = v; tel", "9 0 64 1 v 2 2 v -1/3 5 v 0 7 v 0", "0 0: 0; 1 0: 0; 2 0: 2; 5 0: 1; 7 0: 1; done 9")
	// It begins anew where a condition says so; its init counts ahead of that.
	runs(t, "hybrid main(v: rat) returns (x: rat) let der x = 1 init 7 reset 2 * v when v > 0; tel", "4 0 64 0 v 3 1 v 0 2 v 4 3 v 0 4 v 1", "0 0: 7; 1 0: 8; 2 0: 8; 3 0: 9; 4 0: 2; done 4")
	runs(t, "hybrid main(v: rat) returns (x: rat init 1) let der x = 1 reset 0 when v > 0; tel", "2 0 64 0 v 1 1 v 0", "0 0: 0; 1 0: 1; done 2")
	// In a block it begins with that, and it goes on where no block tells it, by 0.
	runs(t, "hybrid main(v: rat) returns (x: rat init 5) let present v > 0 then { der x = 1; } else { }; tel", "9 0 64 1 v 1 3 v 0 5 v 1 6 v 0", "0 0: 5; 1 0: 5; 3 0: 7; 5 0: 7; 6 0: 8; done 9")
	runs(t, "hybrid main(v: rat) returns (x: rat init 5) let present v > 0 then { der x = 1 init 0; } else { der x = -1; }; tel", "9 0 64 1 v 1 3 v 0 5 v 1 6 v 0", "0 0: 5; 1 0: 0; 3 0: 2; 5 0: 0; 6 0: 1; done 9")
	runs(t, "hybrid main(v: rat) returns (x: rat init 5) let reset { der x = 1 init 3; } every v > 0; tel", "5 0 64 1 v 0 2 v 1 3 v 0", "0 0: 3; 1 0: 4; 2 0: 3; 3 0: 4; done 5")
	runs(t, "hybrid main(v: rat) returns (x: rat init 5) let reset { der x = 1; } every v > 0; tel", "5 0 64 1 v 0 2 v 1 3 v 0", "0 0: 5; 1 0: 6; 2 0: 7; 3 0: 8; done 5")
	runs(t, "hybrid main(v: rat) returns (x: rat) let reset { der x = 1 init 3; } every v > 0; tel", "5 0 64 1 v 0 2 v 1 3 v 0", "0 0: 3; 1 0: 4; 2 0: 3; 3 0: 4; done 5")
	runs(t, "hybrid main(v: rat) returns (x: rat init 5) let automaton state A { der x = 1 init 0; } until v == 1 then B until v == 3 continue B state B { der x = -1; } until v == 2 then A until v == 3 continue A end; tel", "9 1 64 1 v 1 2 v 2 4 v 0 5 v 3 6 v 0", "0 0: 0; 1 0: 1; 1 1: 1; 2 0: 0; 2 1: 0; 4 0: 2; 5 0: 3; 5 1: 3; cascade 5 1")
	// In a node that is called: it begins when that does, and stays where that is not active.
	saw := " hybrid f(by: rat) returns (x: rat init 5) let der x = by; tel"
	runs(t, "hybrid main(v: rat) returns (x: rat) let reset { x = f(2); } every v > 0; tel"+saw, "5 0 64 1 v 0 2 v 1 3 v 0", "0 0: 5; 1 0: 7; 2 0: 5; 3 0: 7; done 5")
	runs(t, "hybrid main(v: rat) returns (x: rat init 9) let present v > 0 then { x = f(v); } else { }; tel"+saw, "9 0 64 1 v 1 2 v 0 4 v 3 5 v 1", "0 0: 9; 1 0: 5; 2 0: 5; 4 0: 6; 5 0: 9; done 9")
	runs(t, "hybrid main(v: rat) returns (x: rat init 9) let reset { present v > 0 then { x = f(v); } else { }; } every v < 0; tel"+saw, "9 0 64 1 v 1 2 v -1 4 v 3 5 v 1", "0 0: 9; 1 0: 5; 2 0: 5; 4 0: 5; 5 0: 8; done 9")
	runs(t, "hybrid main(v: rat) returns (x: rat init 9) let reset { present v > 0 then { x = f(v); } else { }; } every v < 0; tel hybrid f(by: rat) returns (x: rat init 5) let present by > 1 then { der x = by; } else { }; tel", "9 0 64 1 v 2 2 v 1 3 v 0 4 v 3 5 v -1 6 v 1", "0 0: 9; 1 0: 5; 2 0: 7; 3 0: 7; 4 0: 7; 5 0: 7; 6 0: 5; done 9")
	runs(t, "hybrid main(v: rat) returns (x: rat, y: rat) let x = f(1); y = f(v); tel"+saw, "2 0 64 0 v 3 1 v 0", "0 0: 5 5; 1 0: 6 8; done 2")
}
