package exec_test

import (
	"math"
	"strings"
	"testing"

	"foliot/api"
	"foliot/exec"
)

// stated is object code of states that begin with these values, and of slots of these: true, false, nothing, 5, 1/2, Red, 1, -3.
func stated(conts, deriv, cross string) api.Code {
	return api.Code{Ins: 1, Outs: 1, Slots: 9, Crosses: 3, Lines: 9, Mems: vals("4"), Conts: vals(conts),
		Step:  body("lit @true; lit >1 @false; lit >2; lit >3 @5; lit >4 @1/2; lit >5 @Red; lit >6 @1; lit >7 @-3; in >8; out <8; keep <8 ?1"),
		Deriv: body(deriv), Cross: body(cross)}
}

// between does an instant of this input, and tells how states go on.
func between(t *testing.T, c api.Code, in string) *exec.Machine {
	t.Helper()
	m := made(t, c)
	stepped(m, in, 64)
	m.Deriv()
	return m
}

func TestDeriv(t *testing.T) {
	// 17.3: by the slot behind the first guard that is below 0 or true, by 0 without one.
	for _, x := range []string{
		"slope = 2+0", "slope <-1,3 = 2+5", "slope <-7,3 = 2+5", "slope <0,3 = 2+5", "slope <1,3 = 2+0", "slope <2,3 = 2+0", "slope <6,3 = 2+0", "slope <5,3 = 2+0",
		"slope <1,3,0,4 = 2+1/2", "slope <2,3,-1,4 = 2+1/2", "slope <0,3,0,4 = 2+5", "slope <-1,3,-1,4 = 2+5", "slope <1,3,2,4,0,7 = 2+-3", "slope <1,3,2,4,6,7 = 2+0",
		"slope <-1,3 ?0 = 2+5", "slope <-1,3 ?1 = -", "slope ?2 = -", "slope ?6 = -", "slope <-1,3 ?-9 = 2+5",
		"slope <-1,2 = -", "slope <-1,5 = -", "slope <-1,0 = -", // by what is no number
		"slope <-1,3; slope <-1,4 = 2+1/2", "slope <-1,3; slope <-1,4 ?1 = 2+5", "slope <-1,3; slope = 2+0", "slope <-1,3; slope <-1,2 = -",
	} {
		deriv, want, _ := strings.Cut(x, " = ")
		is(t, deriv, linesOf(between(t, stated("2", deriv, ""), "").States()), want)
	}
	c := stated("? Red true 1 -1/2 7", "slope <-1,3; slope k1 <-1,3; slope k2 <-1,3; slope k4 <-1,7; slope k3 <0,4", "")
	is(t, "states: what is no number; what does not go on", linesOf(between(t, c, "").States()), "- - - 1+1/2 -1/2+-3 -")
	is(t, "none", linesOf(between(t, stated("1 2", "", ""), "").States()), "- -")
}

func TestDerivAgain(t *testing.T) {
	// 17.3: how states go on is told by Deriv alone, of slots as they are then; each time anew.
	c := stated("2 3", "slope <-1,8; slope k1 <-1,3 ?1", "lcont; ask <0; lcont >1 k1; ask k1 <1")
	c.Step = append(c.Step, body("state <8 ?1; > >1 <8,3")...)
	m := made(t, c)
	m.Deriv()
	is(t, "ahead of all", kept(m)+"; "+crossed(m, 64), "?; 4; 2 3; - -; - 3+0 -")
	stepped(m, "7", 64)
	is(t, "a step ahead", linesOf(m.States()), "- -")
	m.Deriv()
	is(t, "a step", linesOf(m.States())+"; "+crossed(m, 64), "2+7 3+5; 2+7 3+5 -")
	stepped(m, "1", 64)
	is(t, "one more step, not told yet", linesOf(m.States())+"; "+crossed(m, 64), "2+7 3+5; 2+7 3+5 -")
	m.Deriv()
	is(t, "and told", linesOf(m.States())+"; "+crossed(m, 64), "2+1 -; 2+1 3+0 -")
	m.Deriv()
	is(t, "told twice", linesOf(m.States())+"; "+crossed(m, 64), "2+1 -; 2+1 3+0 -")
	stepped(m, "999", 3)
	m.Deriv()
	is(t, "by nothing", linesOf(m.States())+"; "+crossed(m, 64), "- -; - 3+0 -")
}

func TestCross(t *testing.T) {
	// 17.4, 12.2: the state 0 goes on by 5, 1 by 1/2; 2 is nothing, 3 does not go on, 4 goes on by nothing, 5 is Red, 6 goes on by Red.
	const states, deriv = "2 -3 ? 7 1 Red 1", "slope <-1,3; slope k1 <-1,4; slope k2 <-1,3; slope k4 <-1,2; slope k5 <-1,3; slope k6 <-1,5"
	// Ahead of each: line 0: state 0; 1: state 1; 2: slot 6 (1); 3: slot 7 (-3); 4: slot 2 (nothing); 5: slot 5 (Red); 6: 0, made of 1 - 1.
	const ahead = "lcont; lcont >1 k1; lvar >2 <6; lvar >3 <7; lvar >4 <2; lvar >5 <5; l- >6 <2,2; "
	for _, x := range []string{
		"lvar >8 <3 = 5+0", "lvar >8 <4 = 1/2+0", "lvar >8 <2 = -", "lvar >8 <5 = -", "lvar >8 <0 = -",
		"lcont >8 = 2+5", "lcont >8 k1 = -3+1/2", "lcont >8 k2 = -", "lcont >8 k3 = 7+0", "lcont >8 k4 = -", "lcont >8 k5 = -", "lcont >8 k6 = -",
		"lneg >8 <0 = -2+-5", "lneg >8 <1 = 3+-1/2", "lneg >8 <2 = -1+0", "lneg >8 <4 = -", "lneg >8 <5 = 0+0",
		"l+ >8 <0,1 = -1+11/2", "l+ >8 <1,0 = -1+11/2", "l+ >8 <0,2 = 3+5", "l+ >8 <0,0 = 4+10", "l+ >8 <0,4 = -", "l+ >8 <4,0 = -", "l+ >8 <5,0 = 2+5",
		"l- >8 <0,1 = 5+9/2", "l- >8 <1,0 = -5+-9/2", "l- >8 <2,0 = -1+-5", "l- >8 <4,0 = -",
		"l* >8 <0,3 k1 = -6+-15", "l* >8 <1,3 k1 = 9+-3/2", "l* >8 <3,0 = -6+-15", "l* >8 <3,1 = 9+-3/2", "l* >8 <2,3 = -3+0", "l* >8 <2,3 k1 = -3+0",
		"l* >8 <0,1 k1 = -6+-15", "l* >8 <0,1 = -6+1", "l* >8 <0,6 k1 = 0+0", "l* >8 <0,4 k1 = -", "l* >8 <4,0 = -",
		"l/ >8 <0,3 = -2/3+-5/3", "l/ >8 <1,2 = -3+1/2", "l/ >8 <0,1 = -2/3+-5/3", "l/ >8 <2,3 = -1/3+0", "l/ >8 <0,6 = - div", "l/ >8 <6,6 = - div", "l/ >8 <0,4 = -",
		"l/ >8 <4,6 = - div", // by what it is nothing, but what it goes on by is divided
		"lsel >8 <0,0,1 = 2+5", "lsel >8 <1,0,1 = -3+1/2", "lsel >8 <2,0,1 = -", "lsel >8 <6,0,1 = -3+1/2", "lsel >8 <5,0,1 = -3+1/2", "lsel >8 <0,0,4 = 2+5", "lsel >8 <1,0,4 = -", "lsel >8 <1,4,0 = 2+5",
	} {
		text, want, _ := strings.Cut(x, " = ")
		c := stated(states, deriv, ahead+text+"; ask k1 <8")
		want, div, _ := strings.Cut(want, " ")
		is(t, text, crossed(between(t, c, ""), 64), strings.TrimSpace("- "+want+" - "+div))
		// What is not on is nothing, and nothing is wrong with it, whatever its line was.
		for _, guard := range []string{" ?1", " ?2", " ?6", " ?5"} {
			c = stated(states, deriv, ahead+"lvar >8 <3; "+text+guard+"; ask k1 <8")
			is(t, text+guard, crossed(between(t, c, ""), 64), "- - -")
		}
		c = stated(states, deriv, ahead+text+" ?0; ask k1 <8 ?0; lvar >8 <3")
		is(t, text+" ?0", crossed(between(t, c, ""), 64), strings.TrimSpace("- "+want+" - "+div))
	}
}

func TestAsk(t *testing.T) {
	// 17.4: lines and crossings are nothing at first; an ask that is not on does nothing.
	for _, x := range []string{
		" = - - -", "lvar <3 = - - -", "lvar <3; ask <0 = 5+0 - -", "lvar <3; ask k2 <0 = - - 5+0", "lvar <3; ask <0; ask k1 <0 = 5+0 5+0 -", "lvar <3; ask <0 ?0 = 5+0 - -", "lvar <3; ask <0 ?-3 = 5+0 - -",
		"lvar <3; ask <0; lvar <4 = 5+0 - -", "lvar <3; ask <0; lvar <4; ask <0 = 1/2+0 - -", "lvar <3; ask <0; lvar <4; ask <0 ?1 = 5+0 - -", "lvar <3; ask <0; lvar <2; ask <0 = - - -",
		"lvar <3; ask <0 ?1 = - - -", "lvar <3; ask <0 ?2 = - - -", "lvar <3; ask <0 ?6 = - - -", "lvar <3 ?1; ask <0 = - - -",
		"lvar <3; lneg <0; lneg <0; l+ <0,0; ask <0; lvar <0 ?1; ask k1 <0 = 10+0 - -",
	} {
		cross, want, _ := strings.Cut(x, " = ")
		m := between(t, stated("2", "", cross), "")
		is(t, cross, crossed(m, 64), want)
		is(t, cross+", once more", crossed(m, 64), want)
	}
	// Of each call anew: what was on, and is no more, is nothing.
	c := stated("2", "", "lvar <8 ?8; ask <0 ?8; lvar >1 <6; ask k1 <1 ?8")
	c.Step = append(c.Step, body("> >8 <8,3")...)
	m := made(t, c)
	is(t, "ahead of all", crossed(m, 64), "- - -")
	stepped(m, "9", 64)
	is(t, "on", crossed(m, 64), "- 1+0 -")
	stepped(m, "1", 64)
	is(t, "off", crossed(m, 64), "- - -")
}

// lined is object code that asks an Op (lvar of a slot that is true, lcont of the state k, others of all these lines, lsel by that slot). Each line is as linesOf tells it; it is read of what begins so, and not asked for its bits.
func lined(op string, k int, lines ...string) api.Code {
	n := len(lines)
	c := api.Code{Slots: n + 1, Crosses: 1, Lines: n + 1, Mems: vals("true"), Step: []api.Ins{{Op: "mem", Guard: -1}}}
	x := api.Ins{Op: op, Dst: n, K: k, Guard: -1}
	if op == "lsel" || op == "lvar" {
		x.Args = []int{0}
	}
	for i, text := range lines {
		v, s, _ := strings.Cut(text, "+")
		c.Conts, c.Mems = append(c.Conts, val(v)), append(c.Mems, val(s))
		c.Step = append(c.Step, api.Ins{Op: "mem", Dst: i + 1, K: i + 1, Guard: -1})
		c.Deriv = append(c.Deriv, api.Ins{Op: "slope", K: i, Args: []int{-1, i + 1}, Guard: -1})
		c.Cross = append(c.Cross, api.Ins{Op: "lcont", Dst: i, K: i, Guard: -1})
		if op != "lcont" {
			x.Args = append(x.Args, i)
		}
	}
	c.Cross = append(c.Cross, x, api.Ins{Op: "ask", Args: []int{n}, Guard: -1})
	return c
}

func TestCrossBits(t *testing.T) {
	// 17.4: what is computed has at most so many bits, what it is and what it goes on by; else that is nothing, and too big.
	for _, x := range []string{
		"lneg 255+1 : 8", "lneg 1+255 : 8", "lneg 1/256+1/512 : 10", "lneg 0+0 : 1", "l+ 255+1 1+1 : 9", "l+ 1+255 1+1 : 9", "l+ 1000+1000 -1000+-999 : 1",
		"l- 255+1 -1+0 : 9", "l- 0+255 0+-1 : 9", "l- 1000+999 1000+1000 : 1", "l* 16+1 16+0 : 9 k1", "l* 1+256 1+0 : 9 k1", "l* 1+0 1+256 : 9", "l* 256+0 0+1 : 9", "l* 1000+1/1000 1/1000+0 : 20 k1",
		"l/ 1+0 256+0 : 9", "l/ 0+1 256+0 : 9", "l/ 1000+2000 1000+999 : 2", "l/ 0+0 1000+0 : 1",
	} {
		l := strings.Fields(x)
		colon := len(l) - 2
		k := 0
		if l[len(l)-1] == "k1" {
			colon, k = colon-1, 1
		}
		n := int(rat(l[colon+1]).Num.Mag[0])
		c := lined(l[0], k, l[1:colon]...)
		want := crossed(between(t, c, ""), 900)
		for _, bits := range []int{n, n + 1, math.MaxInt} {
			is(t, x, crossed(between(t, c, ""), bits), want)
		}
		for _, bits := range []int{n - 1, 0, -1, math.MinInt} {
			is(t, x+", too big", crossed(between(t, c, ""), bits), "- big")
		}
	}
	// What is read, and what is chosen, is not computed.
	for _, bits := range []int{9, 1, 0, -3} {
		is(t, "read", crossed(between(t, lined("lcont", 0, "999+1/999"), ""), bits), "999+1/999")
		is(t, "chosen", crossed(between(t, lined("lsel", 0, "999+1/999", "1+1"), ""), bits), "999+1/999")
		c := lined("lvar", 0)
		c.Mems = vals("999")
		is(t, "a slot", crossed(between(t, c, ""), bits), "999+0")
	}
	// Of each call alone, and apart from what a Step says.
	c := lined("l/", 0, "999+1", "0+0")
	c.Step = append(c.Step, body("lit @9; lit @7; lit >1 @0; / >1 <0,1")...)
	m := made(t, c)
	is(t, "a step", stepped(m, "", 3), " div big")
	m.Deriv()
	is(t, "too big and divided", crossed(m, 64)+crossed(m, 1), "- div- div")
	m = between(t, lined("l+", 0, "255+1", "1+1"), "")
	is(t, "too big, and not", crossed(m, 8)+" "+crossed(m, 9)+" "+stepped(m, "", 64), "- big 256+2 ")
}

func TestMove(t *testing.T) {
	// 17.5: each state that goes on, and is a number, as is what it goes on by, is that times dt more.
	const deriv = "slope <-1,3; slope k1 <-1,4; slope k2 <-1,3; slope k4 <-1,2; slope k5 <-1,3; slope k6 <-1,5; slope k7 <1,3; slope k8 <-1,7; slope k9 <-1,3"
	c := stated("2 -3 ? 7 1 Red 1 4 6 true", deriv, "")
	for dt, want := range map[string]string{
		"1": "7 -5/2 ? 7 1 Red 1 4 3 true", "1/2": "9/2 -11/4 ? 7 1 Red 1 4 9/2 true", "0": "2 -3 ? 7 1 Red 1 4 6 true", "2": "12 -2 ? 7 1 Red 1 4 0 true", "-1": "-3 -7/2 ? 7 1 Red 1 4 9 true", "6": "32 0 ? 7 1 Red 1 4 -12 true",
	} {
		m := between(t, c, "9")
		lines := linesOf(m.States())
		is(t, "ahead", kept(m), "9; 4; 2 -3 ? 7 1 Red 1 4 6 true; 2+5 -3+1/2 - - - - - 4+0 6+-3 -")
		if !m.Move(rat(dt), 64) {
			t.Error(dt)
		}
		is(t, "by "+dt, textsOf(m.Conts())+textsOf(m.Outs())+textsOf(m.Mems()), want+"94")
		if !m.Move(rat("-"+strings.TrimPrefix(dt, "-")), 64) || !m.Move(rat("0"), 64) {
			t.Error(dt)
		}
		if dt[0] != '-' { // there and back again
			is(t, "back", linesOf(m.States()), lines)
		}
	}
	m := made(t, c)
	if !m.Move(rat("1"), 1) {
		t.Error("nothing goes on")
	}
	is(t, "nothing goes on", textsOf(m.Conts()), "2 -3 ? 7 1 Red 1 4 6 true")
	m = between(t, c, "1")
	for range 3 {
		m.Move(rat("1/3"), 64)
	}
	is(t, "bit by bit", textsOf(m.Conts()), "7 -5/2 ? 7 1 Red 1 4 3 true")
}

func TestMoveBits(t *testing.T) {
	// 17.5: false, and nothing is changed, if one had more than so many bits.
	for _, x := range []string{"255+1 1 : 9", "255+0 7 : 8", "0+1/256 1 : 9", "1+255 1/255 : 2", "1000+-1 999 : 1", "1000+999 0 : 10", "1/3+1/3 2 : 1", "-128+-127 1 : 8", "0+0 9 : 1", "1+1 1/256 : 9"} {
		l := strings.Fields(x)
		n := int(rat(l[3]).Num.Mag[0])
		for _, bits := range []int{n, n + 1, math.MaxInt} {
			v, s, _ := strings.Cut(l[0], "+")
			m := between(t, lined("lcont", 0, l[0]), "")
			if !m.Move(rat(l[1]), bits) {
				t.Error(x, bits)
			}
			is(t, x, told(t, "-", 64, m.Conts()[0], val(v)), told(t, "*", 64, val(s), val(l[1])))
		}
		for _, bits := range []int{n - 1, 0, -1, math.MinInt} {
			for _, c := range []api.Code{lined("lcont", 0, l[0]), lined("lcont", 0, "0+0", l[0], "1+1"), lined("lcont", 0, l[0], "0+0")} {
				m := between(t, c, "")
				ahead := kept(m)
				if m.Move(rat(l[1]), bits) {
					t.Error(x, bits)
				}
				is(t, x, kept(m), ahead)
			}
		}
	}
	// What is not moved is not asked: what does not go on, what is no number, what goes on by none.
	c := stated("999 Red 999 1", "slope k1 <-1,3; slope k2 <-1,2; slope k3 <-1,6", "")
	m := between(t, c, "")
	if !m.Move(rat("1/2"), 2) || !m.Move(rat("1/2"), 2) {
		t.Error("what is not moved is asked for its bits")
	}
	is(t, "moved twice", textsOf(m.Conts()), "999 Red 999 2")
}

func TestStates(t *testing.T) {
	// 17.5: of each state its line, if it goes on, and both are numbers.
	c := stated("2 ? 7 1/2 Red true 4", "slope <-1,3; slope k1 <-1,3; slope k3 <-1,2; slope k4 <-1,3; slope k5 <-1,3; slope k6 <-1,0", "")
	m := between(t, c, "")
	is(t, "states", linesOf(m.States()), "2+5 - - - - - -")
	m.Move(rat("1/5"), 64)
	is(t, "moved", linesOf(m.States()), "3+5 - - - - - -")
	is(t, "none", linesOf(made(t, api.Code{}).States()), "")
	// A state is as a Step leaves it, whatever it was when Deriv told how it goes on.
	c = stated("2 3", "slope <-1,3; slope k1 <-1,3", "")
	c.Step = append(c.Step, body("state <8; state k1 <5")...)
	m = made(t, c)
	m.Deriv()
	is(t, "by nothing", linesOf(m.States()), "- -")
	stepped(m, "1/3", 64)
	is(t, "by nothing yet", linesOf(m.States()), "- -")
	m.Deriv()
	is(t, "as it is", linesOf(m.States()), "1/3+5 -")
	stepped(m, "4", 64)
	is(t, "as it is then", linesOf(m.States()), "4+5 -")
	stepped(m, "99", 3)
	is(t, "nothing then", linesOf(m.States()), "- -")
}

func TestTwoMachines(t *testing.T) {
	// R5: what one does another one does not tell, of the same code or of others.
	c := stated("2", "slope <-1,8", "lcont; ask <0")
	a, b := between(t, c, "1"), between(t, c, "7")
	is(t, "first", linesOf(a.States())+" "+crossed(a, 64), "2+1 2+1 - -")
	is(t, "second", linesOf(b.States())+" "+crossed(b, 64), "2+7 2+7 - -")
	a.Move(rat("1"), 64)
	is(t, "moved", textsOf(a.Conts())+" "+textsOf(b.Conts())+" "+textsOf(a.Outs())+" "+textsOf(b.Outs()), "3 2 1 7")
	var none exec.Machine
	isNone(t, "none beside them", &none)
}
