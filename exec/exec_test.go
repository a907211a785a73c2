package exec_test

import (
	"math"
	"strings"
	"testing"

	"foliot/api"
	"foliot/exec"
	"foliot/ratio"
)

func TestExample(t *testing.T) {
	m := made(t, api.Code{Ins: 1, Outs: 1, Slots: 2, Step: body("in; neg >1 <0; out <1")})
	is(t, "out neg in", stepped(m, "3", 64), "-3")
	is(t, "out neg in, once more", stepped(m, "-1/2", 64), "1/2")
}

func TestNew(t *testing.T) {
	// 17.1: memories and states begin as the code says; nothing else is there.
	c := api.Code{Outs: 2, Slots: 1, Crosses: 2, Lines: 1, Mems: vals("7 ? Red true"), Conts: vals("1/2 false ?"), Step: body("lit @true; out <0; out k1 <0; again <0")}
	m := made(t, c)
	is(t, "begins", kept(m), "? ?; 7 ? Red true; 1/2 false ?; - - -")
	is(t, "asks", crossed(m, 64), "- -")
	stepped(m, "", 64)
	is(t, "a step", kept(m), "true true again; 7 ? Red true; 1/2 false ?; - - -")
	is(t, "another one", kept(made(t, c)), "? ?; 7 ? Red true; 1/2 false ?; - - -")
	m = made(t, api.Code{})
	is(t, "nothing", kept(m)+stepped(m, "1 2", 64, true)+crossed(m, 64), "; ; ; ")
	if !m.Move(ratio.Of(1), 64) {
		t.Error("nothing can be moved")
	}
}

func TestNotRight(t *testing.T) {
	// 17.1: ErrCode, and no machine, of what may not run.
	for what, c := range map[string]api.Code{
		"a count below 0":         {Slots: -1},
		"too many":                {Lines: api.MaxCode + 1},
		"what nothing wrote":      {Slots: 1, Step: body("neg <0")},
		"an Op of no body":        {Slots: 1, Step: body("lit; pre <0")},
		"a Dst that is no slot":   {Slots: 1, Step: body("lit >1")},
		"no such input":           {Ins: 1, Slots: 1, Step: body("in k1")},
		"no such memory":          {Slots: 1, Step: body("lit; keep <0")},
		"no such state":           {Deriv: body("slope")},
		"a line that is not told": {Lines: 1, Cross: body("lneg <0")},
		"no such crossing":        {Slots: 1, Lines: 1, Step: body("lit"), Cross: body("lvar <0; ask <0")},
	} {
		m, err := exec.New(c)
		if err != api.ErrCode || m != nil {
			t.Error(what, m, err)
		}
		isNone(t, what, m)
	}
	isNone(t, "nil", nil)
	isNone(t, "not made", &exec.Machine{})
	isNone(t, "new", new(exec.Machine))
}

// isNone asks that a machine is none: false, nothing.
func isNone(t *testing.T, what string, m *exec.Machine) {
	t.Helper()
	for range 2 {
		div, big := m.Step(rats("1 2 3"), []bool{true}, 64)
		m.Deriv()
		l, crossDiv, crossBig := m.Cross(64)
		if div || big || crossDiv || crossBig || m.Again() || m.Move(ratio.Of(1), 64) || len(l)+len(m.Outs())+len(m.Mems())+len(m.Conts())+len(m.States()) > 0 {
			t.Error(what)
		}
	}
}

func TestOn(t *testing.T) {
	// 17.1: on, if the Guard is below 0, or that slot is true: of whatever is on.
	c := func(guard string) api.Code {
		each := func(text string) []api.Ins { return body(strings.ReplaceAll(text, "?g", guard)) }
		return api.Code{Outs: 3, Slots: 4, Crosses: 2, Lines: 3, Mems: vals("1 10"), Conts: vals("2 20"),
			Step:  each("lit; lit >1 @3; lit >3 @true; lit >2 @4 ?g; out <2; out k1 <1 ?g; out k2 <3 ?g; keep <1 ?g; keep k1 <1; state <1 ?g; state k1 <1; again <3 ?g"),
			Deriv: each("slope <-1,1 ?g; slope k1 <-1,1"),
			Cross: each("lvar <1 ?g; ask <0; lvar >1 <1; ask k1 <1 ?g"),
		}
	}
	const on, off = "4 3 true again; 3 3; 3 3; 3+3 3+3; 3+0 3+0", "? ? ?; 1 3; 2 3; - 3+3; - -"
	run := func(what string, c api.Code, want string) {
		t.Helper()
		m := made(t, c)
		stepped(m, "", 64)
		m.Deriv()
		is(t, what, kept(m)+"; "+crossed(m, 64), want)
	}
	for text, want := range map[string]string{"true": on, "false": off, "?": off, "1": off, "0": off, "-7/2": off, "Red": off} {
		c := c("?0")
		c.Step[0].Lit = val(text)
		run(text, c, want)
	}
	for num, want := range map[string]string{"2": on, "-1/2": on, "0": off} { // odd truths: what is not 0 is true
		for kind, is := range map[int]string{api.VBool: want, api.VNum: off, api.VCtor: off, api.VNil: off, 70: off, -1: off} {
			c := c("?0")
			c.Step[0].Lit = api.Value{Kind: kind, Num: rat(num), Name: "true"}
			run("odd "+num, c, is)
		}
	}
	run("below 0", c("?-1"), on)
	run("far below 0", c("?-9223372036854775808"), on)
}

// told tells what an Op tells of values, and what was wrong.
func told(t *testing.T, op string, bits int, l ...api.Value) string {
	t.Helper()
	c := api.Code{Outs: 1, Slots: len(l) + 1, Mems: l}
	x := api.Ins{Op: op, Dst: len(l), Guard: -1}
	for i := range l {
		// What memories begin with is not asked for its bits.
		c.Step = append(c.Step, api.Ins{Op: "mem", Dst: i, K: i, Guard: -1})
		x.Args = append(x.Args, i)
	}
	c.Step = append(c.Step, x, api.Ins{Op: "out", Args: []int{len(l)}, Guard: -1})
	return stepped(made(t, c), "", bits)
}

func TestOps(t *testing.T) {
	// 17.2, 12: what operations tell; each line is an Op, its Args, what it tells.
	for _, line := range strings.Split(`copy 3 = 3; copy ? = ?; copy Red = Red; copy true = true
neg 3 = -3; neg -1/2 = 1/2; neg 0 = 0; neg ? = ?; not true = false; not false = true; not ? = ?
floor 7/2 = 3; floor -7/2 = -4; floor 5 = 5; floor -1/3 = -1; floor ? = ?; rat 3 = 3; rat -1/2 = -1/2; rat ? = ?
+ 1/2 1/3 = 5/6; + 1/2 -1/2 = 0; - 1/2 1/3 = 1/6; - 1 1 = 0; * 2/3 3/2 = 1; * 0 -7 = 0; * -2 1/3 = -2/3
/ 1 3 = 1/3; / -1/2 1/4 = -2; / 0 5 = 0; / 1 0 = ? div; / 0 0 = ? div; / 7 -2 = -7/2
div 7 2 = 3; div -7 2 = -4; div 7 -2 = -4; div -7 -2 = 3; div 6 3 = 2; div 0 3 = 0; div 1 0 = ? div; div 0 0 = ? div
mod 7 2 = 1; mod -7 2 = 1; mod 7 -2 = -1; mod -7 -2 = -1; mod 6 3 = 0; mod 0 3 = 0; mod 1 0 = ? div; mod 0 0 = ? div
div 7/2 1/2 = 7; div 3/2 2 = 0; div -3/2 2 = -1; mod 3/2 2 = 3/2; mod -3/2 2 = 1/2; mod 7/3 1/2 = 1/3
< 1 2 = true; < 2 2 = false; < 3 2 = false; < -1/2 -1/3 = true; <= 1 2 = true; <= 2 2 = true; <= 3 2 = false
> 1 2 = false; > 2 2 = false; > 3 2 = true; >= 1 2 = false; >= 2 2 = true; >= 3 2 = true
== 1/2 1/2 = true; == 1 2 = false; == true true = true; == true false = false; == Red Red = true; == Red Green = false
!= 1/2 1/2 = false; != 1 2 = true; != true true = false; != true false = true; != Red Red = false; != Red Green = true
== true 1 = false; == false 0 = false; == Red 0 = false; == Red false = false; != true 1 = true; != Red 0 = true
and true true = true; and true false = false; and false true = false; and false false = false
or true true = true; or true false = true; or false true = true; or false false = false
gand true = true; gand false = false; gand ? = false; gand 1 = false; gand true true true = true; gand true ? true = false; gand true true false = false; gand Red true = false
mrg 5 = 5; mrg ? = ?; mrg true 5 = 5; mrg false 5 = ?; mrg ? 5 = ?; mrg 1 5 = ?; mrg true 5 6 = 5; mrg false 5 6 = 6; mrg ? 5 6 = 6; mrg false 5 ? = ?
mrg false 1 true 2 3 = 2; mrg true 1 true 2 3 = 1; mrg false 1 false 2 3 = 3; mrg false 1 false 2 = ?; mrg true ? true 2 = ?; mrg ? 1 true Red = Red; mrg true true = true; mrg false true = ?
sel true 1 2 = 1; sel false 1 2 = 2; sel ? 1 2 = ?; sel true ? 2 = ?; sel false 1 ? = ?; sel true Red ? = Red; sel false ? Red = Red; sel 1 2 3 = 3; sel Red 2 3 = 3`, "\n") {
		for _, text := range strings.Split(line, "; ") {
			call, want, _ := strings.Cut(text, " = ")
			op, args, _ := strings.Cut(call, " ")
			is(t, call, told(t, op, 64, vals(args)...), want)
		}
	}
	for _, op := range strings.Fields("+ - * / div mod < <= > >= == != and or") { // of nothing nothing, and nothing is wrong
		for _, args := range []string{"? 0", "0 ?", "? ?", "? Red", "true ?", "? false"} {
			is(t, op+" "+args, told(t, op, 64, vals(args)...), "?")
		}
	}
}

func TestOtherKinds(t *testing.T) {
	// 17.1, 12: of values of another kind than it is for an operation looks at Num alone, as a number; but what is true is a truth.
	five := api.Value{Kind: api.VCtor, Name: "Red", Num: rat("5/2")}
	truth, red, two, strange := val("true"), val("Red"), val("2"), api.Value{Kind: 70, Num: rat("3"), Name: "x"}
	for _, x := range []struct {
		op   string
		want string
		l    []api.Value
	}{
		{"+", "3", []api.Value{truth, two}}, {"-", "-2", []api.Value{red, two}}, {"*", "5", []api.Value{five, two}}, {"/", "5/6", []api.Value{five, strange}},
		{"/", "? div", []api.Value{two, red}}, {"div", "? div", []api.Value{two, val("false")}}, {"div", "1", []api.Value{five, two}}, {"mod", "1/2", []api.Value{five, two}},
		{"neg", "-1", []api.Value{truth}}, {"floor", "2", []api.Value{five}}, {"rat", "5/2", []api.Value{five}}, {"rat", "1", []api.Value{truth}}, {"rat", "0", []api.Value{red}},
		{"<", "true", []api.Value{truth, two}}, {">", "true", []api.Value{five, two}}, {"<=", "true", []api.Value{red, val("Green")}}, {">=", "false", []api.Value{red, five}},
		{"<", "true", []api.Value{val("false"), truth}}, {"==", "true", []api.Value{red, five}}, {"!=", "false", []api.Value{five, red}}, {"==", "false", []api.Value{strange, val("3")}},
		{"not", "true", []api.Value{two}}, {"not", "true", []api.Value{five}}, {"and", "false", []api.Value{two, truth}}, {"or", "true", []api.Value{two, truth}},
		{"or", "false", []api.Value{two, strange}}, {"copy", "Red=5/2", []api.Value{five}},
		{"+", "?", []api.Value{{Num: rat("5"), Name: "x"}, two}}, {"mrg", "?", []api.Value{{Num: rat("5"), Name: "x"}}}, // nothing is nothing
		{"copy", "2", []api.Value{{Kind: api.VNum, Num: rat("2"), Name: "x"}}},
	} {
		is(t, x.op, told(t, x.op, 64, x.l...), x.want)
	}
}

// forms are the ways in which a number may be handed in.
func forms(a api.Rat) []api.Rat {
	long := api.Rat{Num: api.Int{Neg: a.Num.Neg, Mag: append(append([]uint32{}, a.Num.Mag...), 0)}, Den: append(append([]uint32{}, a.Den...), 0, 0)}
	six := api.Rat{Num: api.Int{Neg: a.Num.Neg}, Den: []uint32{6 * a.Den[0]}}
	out := []api.Rat{a, long}
	if ratio.Sign(a) == 0 {
		nought := api.Rat{Num: api.Int{Neg: true}, Den: []uint32{7}}
		return append(out, six, nought, api.Rat{}, api.Rat{Num: api.Int{Neg: true, Mag: []uint32{5}}}, api.Rat{Num: api.Int{Mag: []uint32{1 << 31, 1}}, Den: []uint32{0}})
	}
	six.Num.Mag = []uint32{6 * a.Num.Mag[0]}
	return append(out, six)
}

func TestForms(t *testing.T) {
	// Chapter 3: a number that is handed in counts as the number that it says; bits are those of the number as it is told.
	for _, text := range []string{"0", "1", "-2", "3/2", "-7/3"} {
		for _, a := range forms(rat(text)) {
			v := api.Value{Kind: api.VNum, Num: a}
			for op, l := range map[string][2]string{"copy": {text, text}, "rat": {text, text}, "neg": {text, ""}, "floor": {text, ""}} {
				want := told(t, op, 3, val(l[0]))
				is(t, op+" "+text, told(t, op, 3, v), want)
			}
			for _, op := range strings.Fields("+ - * / div mod < <= > >= == !=") {
				for _, other := range []string{"0", "2", "-3/2"} {
					is(t, op+" "+text+" "+other, told(t, op, 9, v, val(other)), told(t, op, 9, val(text), val(other)))
					is(t, op+" "+other+" "+text, told(t, op, 9, val(other), v), told(t, op, 9, val(other), val(text)))
				}
			}
			truth, want := api.Value{Kind: api.VBool, Num: a}, "true"
			if text == "0" {
				want = "false"
			}
			is(t, "a truth of "+text, told(t, "and", 3, truth, val("true")), want)
			is(t, "the number of a truth of "+text, told(t, "rat", 3, truth), told(t, "rat", 3, val(text)))
			c := api.Code{Ins: 1, Outs: 2, Slots: 1, Step: body("in; out <0; lit; out k1 <0"), Mems: []api.Value{v}, Conts: []api.Value{v}, Deriv: body("slope <-1,0")}
			c.Step[2].Lit = v
			m := made(t, c)
			div, big := m.Step([]api.Rat{a}, nil, 3)
			m.Deriv()
			is(t, "in, lit, memories, states", kept(m)+faultsOf(div, big), text+" "+text+"; "+text+"; "+text+"; "+text+"+"+text)
			if !m.Move(a, 6) {
				t.Error(text)
			}
			is(t, "moved", textsOf(m.Conts()), told(t, "+", 9, val(text), api.Value{Kind: api.VNum, Num: ratio.Mul(a, a)}))
		}
	}
}

func TestBits(t *testing.T) {
	// 17.1: at most so many bits, of what is computed; else it is nothing, and too big.
	for _, text := range []string{
		"neg 255 : 8", "neg -1/255 : 8", "neg 1 : 1", "neg 0 : 1", "rat 255 : 8", "rat 1/256 : 9", "floor 511/2 : 8", "floor 1/1000000 : 1", "floor -1/1000000 : 1",
		"+ 100 155 : 8", "+ 1000000 -1000000 : 1", "- 100 -156 : 9", "- 5 5 : 1", "* 16 16 : 9", "* 1/16 1/16 : 9", "* 1000 1/1000 : 1",
		"/ 1 256 : 9", "/ 1000 1000 : 1", "/ 0 1000 : 1", "div 1000 1000 : 1", "div 1000 3 : 9", "div -1 1000000 : 1", "mod 1000 999 : 1", "mod 1000000 1000 : 1", "mod -1 256 : 8",
	} {
		call, want, _ := strings.Cut(text, " : ")
		op, args, _ := strings.Cut(call, " ")
		n := int(rat(want).Num.Mag[0])
		good := told(t, op, 900, vals(args)...)
		for bits := n - 2; bits <= n+1; bits++ {
			if bits >= n {
				is(t, call, told(t, op, bits, vals(args)...), good)
			} else {
				is(t, call+", too big", told(t, op, bits, vals(args)...), "? big")
			}
		}
		for _, bits := range []int{0, -1, math.MinInt} {
			is(t, call+", no bits", told(t, op, bits, vals(args)...), "? big")
		}
		is(t, call+", any bits", told(t, op, math.MaxInt, vals(args)...), good)
	}
	// What is chosen, compared, kept is not computed.
	for _, text := range []string{"copy 999 = 999", "sel true 999 1000 = 999", "mrg true 999 = 999", "mrg 1/999 = 1/999", "gand true = true", "not false = true", "< 998 999 = true", "== 999 999 = true", "!= Red Green = true", "and true true = true", "or false true = true"} {
		call, want, _ := strings.Cut(text, " = ")
		op, args, _ := strings.Cut(call, " ")
		for _, bits := range []int{9, 1, 0, -5} {
			is(t, call, told(t, op, bits, vals(args)...), want)
		}
	}
	for _, op := range []string{"/", "div", "mod"} { // a quotient by nought is not too big, however few bits there may be
		is(t, op, told(t, op, 0, vals("999 0")...), "? div")
	}
}

func TestFaults(t *testing.T) {
	// 17.2: whether anything was wrong, all instructions being done; of each instant alone.
	c := api.Code{Ins: 2, Outs: 4, Slots: 6, Step: body("in; in >1 k1; / >2 <0,1; lit >3 @9; + >4 <0,3; not >5 <2; == >5 <2,3; out <2; out k1 <4; out k2 <5; out k3 <3")}
	m := made(t, c)
	is(t, "nothing", stepped(m, "6 3", 4), "2 15 false 9")
	is(t, "div", stepped(m, "6 0", 4), "? 15 ? 9 div")
	is(t, "big", stepped(m, "7 7", 4), "1 ? false 9 big")
	is(t, "both", stepped(m, "7 0", 4), "? ? ? 9 div big")
	is(t, "an input", stepped(m, "16 1", 4), "? ? ? 9 big")
	is(t, "a quotient of what is too big", stepped(m, "16 0", 4), "? ? ? 9 big")
	is(t, "a lit", stepped(m, "1 1", 3), "1 ? ? ? big")
	is(t, "nothing again", stepped(m, "6 3", 4), "2 15 false 9")
	// What is not on is not computed.
	m = made(t, api.Code{Ins: 1, Outs: 1, Slots: 3, Step: body("lit @false; lit >1 @999 ?0; in >1 ?0; lit >2 @0; / >1 <2,2 ?0; + >1 <2,2 ?0; out <1")})
	is(t, "off", stepped(m, "999", 1), "?")
	// A lit that is no number is not asked for its bits; what is not there, and a flag, are none.
	long := api.Value{Kind: api.VCtor, Name: "Red", Num: rat("999")}
	m = made(t, api.Code{Crosses: 1, Outs: 3, Slots: 1, Step: []api.Ins{{Op: "lit", Lit: long, Guard: -1}, body("out <0")[0], body("lit @true")[0], body("out k1 <0")[0], body("flag")[0], body("out k2 <0")[0]}})
	is(t, "no number", stepped(m, "", 0), "Red=999 true false")
}

func TestWhatIsHanded(t *testing.T) {
	// 17.2: inputs and flags of their places; 0 and false where there are none; others do not count.
	c := api.Code{Ins: 3, Outs: 6, Slots: 6, Crosses: 3, Step: body("in k2; in >1; in >2 k1; flag >3 k2; flag >4; flag >5 k1; out <0; out k1 <1; out k2 <2; out k3 <3; out k4 <4; out k5 <5")}
	m := made(t, c)
	is(t, "all", stepped(m, "1 2 3", 64, true, false, true), "3 1 2 true true false")
	is(t, "too many", stepped(m, "1 2 3 999999999999999999999", 64, false, true, false, true), "3 1 2 false false true")
	is(t, "too few", stepped(m, "1 2", 64, false, true), "0 1 2 false false true")
	is(t, "one", stepped(m, "-1/2", 64, true), "0 -1/2 0 false true false")
	is(t, "none", stepped(m, "", 64), "0 0 0 false false false")
	is(t, "too big", stepped(m, "255 256 1/256", 8), "? 255 ? false false false big")
	is(t, "no bits, not even of 0", stepped(m, "", 0), "? ? ? false false false big")
}

func TestMemories(t *testing.T) {
	// 17.2: mem: what the memory began with, if one of Resets is true, else what is kept now; keep: its Arg, if it is on; else, if one of Resets is true, what it began with.
	// Inputs: the reset of who reads; whether keep is on; its reset; what it keeps.
	c := api.Code{Ins: 4, Outs: 2, Slots: 8, Mems: vals("99 7"), Step: body(
		"in; in >1 k1; in >2 k2; in >3 k3; lit >4 @0; > >0 <0,4; > >1 <1,4; > >2 <2,4; " +
			"mem >5 k1 !4,0; keep k1 <3 ?1 !2,4; mem >6 k1; out <5; out k1 <6")}
	m := made(t, c)
	for _, x := range []string{
		"0 0 0 1 = 7 7", "0 1 0 1 = 7 1", "0 0 0 2 = 1 1", "1 0 0 2 = 7 1", "0 1 1 3 = 1 3", "1 1 0 4 = 7 4", "0 0 1 5 = 4 7", "0 0 0 5 = 7 7", "0 1 0 1/2 = 7 1/2", "1 0 1 6 = 7 7",
	} {
		in, want, _ := strings.Cut(x, " = ")
		is(t, in, stepped(m, in, 64), want)
		is(t, in, kept(m), want+"; 99 "+strings.Fields(want)[1]+"; ; ")
	}
	// States likewise, which begin anew too; nothing is kept, too, and anything else.
	c.Mems, c.Conts = nil, vals("99 7")
	for i, x := range c.Step {
		switch x.Op {
		case "mem":
			c.Step[i].Op = "cont"
		case "keep":
			c.Step[i].Op = "state"
		}
	}
	m = made(t, c)
	for _, x := range []string{"0 0 0 1 = 7 7", "0 1 0 1 = 7 1", "0 0 0 2 = 1 1", "1 0 0 2 = 7 1", "0 1 1 99999 = 1 ? big", "0 0 0 5 = ? ?", "0 0 1 5 = ? 7", "1 0 1 6 = 7 7"} {
		in, want, _ := strings.Cut(x, " = ")
		is(t, in, stepped(m, in, 9), want)
	}
	m = made(t, api.Code{Slots: 3, Mems: vals("99999"), Conts: vals("1/99999"), Step: body("lit @Red; lit >1 @false; lit >2 @true; keep <0 ?1; state <0 ?1 !1")})
	is(t, "what it begins with is not asked for its bits", stepped(m, "", 1)+kept(m), "; 99999; 1/99999; -")
	m = made(t, api.Code{Slots: 2, Mems: vals("1 2 3"), Conts: vals("1"), Step: body("lit @Red; lit >1 @true; keep <0; keep k1 <1; keep k2 <0; keep k2 <1; state <0; lit @9; keep <0")})
	stepped(m, "", 64)
	is(t, "anything; the last one", kept(m), "; 9 true true; Red; -")
}

func TestOutsAndAgain(t *testing.T) {
	// 17.2: outputs are nothing, and no more instant is asked for, ahead of each Step; then what is on tells.
	c := api.Code{Ins: 2, Outs: 3, Slots: 4, Step: body("in; in >1 k1; lit >2 @0; > >3 <0,2; out k2 <0 ?3; out <1; out <0 ?3; > >2 <1,2; again <2 ?3")}
	m := made(t, c)
	for _, x := range []string{"1 2 = 1 ? 1 again", "0 2 = 2 ? ?", "1 0 = 1 ? 1", "5 6 = 5 ? 5 again", "0 0 = 0 ? ?"} {
		in, want, _ := strings.Cut(x, " = ")
		stepped(m, in, 64)
		is(t, in, kept(m), want+"; ; ; ")
		m.Deriv()
		m.Cross(64)
		m.Move(ratio.Of(1), 64)
		is(t, in+", behind", kept(m), want+"; ; ; ")
	}
	for lits, want := range map[string]string{"true false": " again", "false true": " again", "false false": "", "1 ?": "", "Red 1": "", "? true": " again"} {
		c := api.Code{Slots: 2, Step: body("lit; lit >1; again <0; again <1")}
		for i, v := range vals(lits) {
			c.Step[i].Lit = v
		}
		m := made(t, c)
		stepped(m, "", 64)
		is(t, lits, kept(m), want+"; ; ; ")
	}
}

func TestSteps(t *testing.T) {
	// 17.2: instruction by instruction, each slot being what was told last; what is not on tells nothing.
	m := made(t, api.Code{Outs: 5, Slots: 2, Step: body("lit @1; out <0; + <0,0; out k1 <0; lit >1 @false; lit @9 ?1; out k2 <0; lit @true; not <0; out k3 <0; lit @7 ?0; out k4 <0")})
	is(t, "one by one", stepped(m, "", 64), "1 2 ? false ?")
	is(t, "once more", stepped(m, "", 64), "1 2 ? false ?")
}
