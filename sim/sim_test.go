package sim_test

import (
	"strconv"
	"strings"
	"testing"

	"foliot/api"
	"foliot/sim"
)

// row is a script, and what a run by it tells.
type row struct{ script, want string }

// asks runs a source by scripts.
func asks(t *testing.T, src string, rows ...row) {
	t.Helper()
	c, ins := compiled(t, src)
	for _, x := range rows {
		is(t, src+" by "+x.script, ran(c, ins, scripted(x.script)), x.want)
	}
}

func TestExamples(t *testing.T) {
	// The chapter's example, and those of the whole that run.
	asks(t, "hybrid main() returns (x: rat) let der x = 1 init 0 reset 0 when up(x - 1); tel",
		row{"5/2 0 64", "0.0 0; 1.0 0; 2.0 0; done 5/2.0"},
		row{"2 0 64", "0.0 0; 1.0 0; 2.0 0; done 2.0"},
		row{"199/100 0 64", "0.0 0; 1.0 0; done 199/100.0"},
		row{"0 0 64", "0.0 0; done 0.0"})
	asks(t, "hybrid main(v: rat) returns (x: rat) let der x = 1 init 0 reset 0 when up(x - 1); tel",
		row{"5/2 0 64; 1/2 v 1", "0.0 0; 1/2.0 1/2; 1.0 0; 2.0 0; done 5/2.0"})
	asks(t, "node main(v: rat) returns (n: int) let n = 0 -> pre n + 1; tel",
		row{"5 0 64; 0 v 1; 1 v 1; 3 v 2", "0.0 0; 1.0 1; 3.0 2; done 5.0"})
	asks(t, "hybrid main() returns (x: rat init 0, c: int init 0) let automaton state A { der x = 1; c = 1; } until up(x - 1) then B state B { der x = -1; c = 2; } until up(-x) then A end; tel",
		row{"5/2 1 64", "0.0 0 1; 1.0 1 1; 1.1 1 2; 2.0 0 2; 2.1 0 1; done 5/2.0"})
	asks(t, "node main(v: rat) returns (x: rat) let x = 1 / v; tel",
		row{"1 0 64", "div 0.0"},
		row{"1 0 64; 0 v 2; 1 v 0", "0.0 1/2; div 1.0"})
	asks(t, "node main() returns (n: int init 0) let automaton state A { n = last n + 1; } until true then A end; tel",
		row{"1 0 64", "0.0 1; cascade 0.0"},
		row{"1 1 64", "0.0 1; 0.1 2; cascade 0.1"},
		row{"1 3 64", "0.0 1; 0.1 2; 0.2 3; 0.3 4; cascade 0.3"})
	asks(t, "node main(v: rat) returns (q: rat) let q = 1 -> pre q / 3; tel",
		row{"9 0 8; 1 v 0; 2 v 0; 3 v 0; 4 v 0; 5 v 0; 6 v 0; 7 v 0", "0.0 1; 1.0 1/3; 2.0 1/9; 3.0 1/27; 4.0 1/81; 5.0 1/243; big 6.0"})
}

func TestChanges(t *testing.T) {
	// 21.1, 12.2: inputs are 0 at first; changes at 0 are made ahead of the first instant; each change is an event's time, though nothing becomes another; of two at one time the later one stays.
	asks(t, "node main(v: rat, w: rat) returns (x: rat, y: rat) let x = v; y = w; tel",
		row{"1 0 8", "0.0 0 0; done 1.0"},
		row{"1 0 8; 0 v 3", "0.0 3 0; done 1.0"},
		row{"1 0 8; 0 v 3; 0 w 5; 0 v 4", "0.0 4 5; done 1.0"},
		row{"1 0 8; 1/2 v 0", "0.0 0 0; 1/2.0 0 0; done 1.0"},
		row{"1 0 8; 1/2 w 5; 1/2 v 3; 1/2 w -6", "0.0 0 0; 1/2.0 3 -6; done 1.0"},
		row{"1 0 8; 1/2 w 5; 2/3 v 3", "0.0 0 0; 1/2.0 0 5; 2/3.0 3 5; done 1.0"},
		row{"1 0 8; 1 v 3", "0.0 0 0; 1.0 3 0; done 1.0"},
		row{"0 0 8; 0 v 3", "0.0 3 0; done 0.0"})
}

func TestPlacesOfInputs(t *testing.T) {
	// 21.1: an input's place is its place in ins; the first one of a name counts; a name may be anything.
	c := api.Code{Ins: 3, Outs: 3, Slots: 3, Step: body("in >0 k0; in >1 k1; in >2 k2; out k0 <0; out k1 <1; out k2 <2")}
	for _, x := range []struct{ ins, script, want string }{
		{"a,b,c", "1 0 8; 1 a 1; 1 b 2; 1 c 3", "0.0 0 0 0; 1.0 1 2 3; done 1.0"},
		{"c,b,a", "1 0 8; 1 a 1; 1 b 2; 1 c 3", "0.0 0 0 0; 1.0 3 2 1; done 1.0"},
		{"a,a,b", "1 0 8; 1 a 1; 1 b 2", "0.0 0 0 0; 1.0 1 0 2; done 1.0"},
		{"b,a,a", "1 0 8; 0 a 7; 1 a 1; 1 b 2", "0.0 0 7 0; 1.0 2 1 0; done 1.0"},
		{"a,a,a", "1 0 8; 1 a 1", "0.0 0 0 0; 1.0 1 0 0; done 1.0"},
		{"A,,?", "1 0 8; 1 A 1; 1 ? 2", "0.0 0 0 0; 1.0 1 0 2; done 1.0"},
	} {
		is(t, x.ins+" by "+x.script, ran(c, strings.Split(x.ins, ","), scripted(x.script)), x.want)
	}
}

func TestUpsInTime(t *testing.T) {
	// 12.2: an up passes when what it asks, below 0 and going on above 0, is 0; those that pass together pass at one instant.
	const up = "hybrid main(v: rat) returns (b: bool) var x: rat; let der x = %s init %s; b = up(x); tel"
	for _, x := range []struct{ slope, init, want string }{
		{"1", "-1", "0.0 false; 1.0 true; done 2.0"},
		{"1", "-2", "0.0 false; 2.0 true; done 2.0"},
		{"1", "-3", "0.0 false; done 2.0"},
		{"1/3", "-1", "0.0 false; done 2.0"},
		{"3", "-1", "0.0 false; 1/3.0 true; done 2.0"},
		{"1", "0", "0.0 false; done 2.0"},
		{"1", "1", "0.0 false; done 2.0"},
		{"0", "-1", "0.0 false; done 2.0"},
		{"-1", "-1", "0.0 false; done 2.0"},
		{"-1", "1", "0.0 false; done 2.0"},
	} {
		asks(t, strings.Replace(strings.Replace(up, "%s", x.slope, 1), "%s", x.init, 1), row{"2 0 64", x.want})
	}
	asks(t, "hybrid main(v: rat) returns (b: bool, c: bool, d: bool) var x: rat; let der x = 1 init 0; b = up(x - 1); c = up(2 * x - 2); d = up(x - 2); tel",
		row{"3 0 64", "0.0 false false false; 1.0 true true false; 2.0 false false true; done 3.0"},
		row{"3 0 64; 1 v 1; 3/2 v 1", "0.0 false false false; 1.0 true true false; 3/2.0 false false false; 2.0 false false true; done 3.0"})
	// An input that changes just then keeps an up from nothing; one that changes on the way is what the up asks from then on.
	asks(t, "hybrid main(v: rat) returns (b: bool) var x: rat; let der x = 1 init -2; b = up(x - v); tel",
		row{"9 1 64; 2 v 5", "0.0 false; 2.0 true; 7.0 true; done 9.0"},
		row{"9 1 64; 1 v 1", "0.0 false; 1.0 false; 3.0 true; done 9.0"},
		row{"9 1 64; 1 v -1", "0.0 false; 1.0 false; 1.1 true; done 9.0"},
		row{"9 1 64; 1 v -2", "0.0 false; 1.0 false; 1.1 true; done 9.0"})
}

func TestJumps(t *testing.T) {
	// 12.2: an up jumps that was below 0 ahead of an instant, and is not behind it.
	asks(t, "hybrid main(v: rat) returns (b: bool) let b = up(v - 1); tel",
		row{"3 1 64; 1 v 2", "0.0 false; 1.0 false; 1.1 true; done 3.0"},
		row{"3 1 64; 1 v 1", "0.0 false; 1.0 false; 1.1 true; done 3.0"},
		row{"3 1 64; 1 v 99/100", "0.0 false; 1.0 false; done 3.0"},
		row{"3 0 64; 1 v 2", "0.0 false; 1.0 false; cascade 1.0"},
		row{"3 1 64; 0 v 2", "0.0 false; done 3.0"},
		row{"3 1 64; 0 v 1; 1 v 2", "0.0 false; 1.0 false; done 3.0"},
		row{"3 1 64; 0 v 2; 1 v 0; 2 v 1", "0.0 false; 1.0 false; 2.0 false; 2.1 true; done 3.0"},
		row{"1 1 64; 1 v 2", "0.0 false; 1.0 false; 1.1 true; done 1.0"})
	// One that jumps lets another one jump; that one passes alone.
	asks(t, "hybrid main(v: rat) returns (x: rat init -1, a: bool, b: bool) let present up(v - 1) then { x = 1; } else { x = last x; }; a = up(v - 1); b = up(x); tel",
		row{"3 2 64; 1 v 2", "0.0 -1 false false; 1.0 -1 false false; 1.1 1 true false; 1.2 1 false true; done 3.0"},
		row{"3 1 64; 1 v 2", "0.0 -1 false false; 1.0 -1 false false; 1.1 1 true false; cascade 1.1"})
	// What passes by itself does not jump; what jumps when another one passes is told in one more instant.
	asks(t, "hybrid main(v: rat) returns (a: bool, b: bool) var x: rat; let der x = 1 init -1; a = up(x); b = up(v - 1); tel",
		row{"3 1 64; 1 v 2", "0.0 false false; 1.0 true false; 1.1 false true; done 3.0"})
}

func TestActive(t *testing.T) {
	// 12.2: an up that was not active at the instant ahead, in this event or behind the last one, does not jump, nor does one that is not active now.
	asks(t, "hybrid main() returns (x: rat init 0) let automaton state A { der x = 1; } until up(x - 1) then B state B { der x = 1; } until up(x - 1/2) then A end; tel",
		row{"3 3 64", "0.0 0; 1.0 1; 1.1 1; done 3.0"})
	const step = "in >0 k0; in >1 k1; lit >2 @0; > >3 <1,2; flag >4 k0; out k0 <4"
	for _, cross := range []string{"lvar >0 <0; ask k0 <0 ?3", "lvar >0 <0 ?3; ask k0 <0", "lvar >0 <0; lsel >0 <3,0,0; ask k0 <0 ?3"} {
		c := api.Code{Ins: 2, Outs: 1, Slots: 5, Crosses: 1, Lines: 1, Step: body(step), Cross: body(cross)}
		is(t, cross, ran(c, []string{"v", "on"}, scripted("9 1 8; 0 v -1; 1 v 1; 2 v -1; 2 on 1; 3 v 1; 3 on 0; 4 on 1; 5 v -1; 6 v 1; 7 on 0; 7 v -1; 8 on 1; 9 v 0")),
			"0.0 false; 1.0 false; 2.0 false; 3.0 false; 4.0 false; 5.0 false; 6.0 false; 6.1 true; 7.0 false; 8.0 false; 9.0 false; 9.1 true; done 9.0")
	}
}

func TestWhatIsNoLine(t *testing.T) {
	// 21.1: an up is a crossing that is On: one that asks a truth, or of a state that is nothing, never passes.
	c := api.Code{Ins: 1, Outs: 1, Slots: 4, Crosses: 1, Lines: 1, Step: body("in >0 k0; lit >1 @0; < >2 <0,1; flag >3 k0; out k0 <3"), Cross: body("lvar >0 <2; ask k0 <0")}
	is(t, "a truth", ran(c, []string{"v"}, scripted("3 1 8; 1 v -1; 2 v 1")), "0.0 false; 1.0 false; 2.0 false; done 3.0")
	c = api.Code{Outs: 1, Slots: 2, Crosses: 1, Lines: 1, Conts: vals("?"), Step: body("lit >0 @1; flag >1 k0; out k0 <1"), Deriv: body("slope k0 <-1,0"), Cross: body("lcont >0 k0; ask k0 <0")}
	is(t, "nothing", ran(c, nil, scripted("3 1 8")), "0.0 false; done 3.0")
	c.Conts = vals("-1")
	is(t, "a number", ran(c, nil, scripted("3 1 8")), "0.0 false; 1.0 true; done 3.0")
	c.Cross = body("lcont >0 k0")
	is(t, "asked by none", ran(c, nil, scripted("3 1 8")), "0.0 false; done 3.0")
	c.Cross = body("lcont >0 k0; ask k0 <0")
	c.Deriv = body("slope k0 <-1,1")
	is(t, "going on by a truth", ran(c, nil, scripted("3 1 8")), "0.0 false; done 3.0")
}

func TestAgain(t *testing.T) {
	// 12.2: an instant that asks for one more has one, at which nothing passes that did not jump; as many as Cascade.
	asks(t, "hybrid main(v: rat) returns (b: bool, n: int init 0) let b = up(v - 1); automaton state A { n = 1; } until v > 1 then B state B { n = 2; } until true then C state C { n = 3; } end; tel",
		row{"3 2 64; 1 v 2", "0.0 false 1; 1.0 false 1; 1.1 true 2; 1.2 false 3; done 3.0"},
		row{"3 1 64; 1 v 2", "0.0 false 1; 1.0 false 1; 1.1 true 2; cascade 1.1"},
		row{"3 2 64; 0 v 2; 1 v 0; 2 v 2", "0.0 false 1; 0.1 false 2; 0.2 false 3; 1.0 false 3; 2.0 false 3; 2.1 true 3; done 3.0"},
		row{"0 2 64; 0 v 2", "0.0 false 1; 0.1 false 2; 0.2 false 3; done 0.0"})
	c := api.Code{Outs: 1, Slots: 3, Mems: vals("0"), Step: body("lit >0 @1; mem >1 k0; + >1 <1,0; keep k0 <1; out k0 <1; lit >2 @true; again <2")}
	last := strconv.Itoa(20000)
	got := ran(c, nil, scripted("1 20000 64"))
	if !strings.HasSuffix(got, "; 0."+last+" 20001; cascade 0."+last) || strings.Count(got, ";") != 20001 {
		t.Error(got[len(got)-60:])
	}
}

func TestDividesAndTooBig(t *testing.T) {
	// 21.1: an instant divides by nought, is too big, if Step or Cross say so; it divides first; it tells nothing.
	const src = "hybrid main(v: rat, w: rat, z: rat) returns (y: rat) var x: rat; b: bool; c: bool; let der x = 1 init 2; b = up(x / (v - 1)); c = up(x * z); y = 7 / (w - 1); tel"
	asks(t, src,
		row{"3 0 3", "0.0 -7; done 3.0"},
		row{"3 0 3; 0 w 1", "div 0.0"},
		row{"3 0 3; 0 v 1", "div 0.0"},
		row{"3 0 3; 0 z 4", "big 0.0"},
		row{"3 0 3; 0 z 8", "big 0.0"},
		row{"3 0 3; 0 z 3", "0.0 -7; done 3.0"},
		row{"3 0 3; 0 z 4; 0 w 1", "div 0.0"},
		row{"3 0 3; 0 z 4; 0 v 1", "div 0.0"},
		row{"3 0 3; 0 z 8; 0 v 1", "div 0.0"},
		row{"3 0 3; 1 z 8", "0.0 -7; big 1.0"},
		row{"3 0 3; 1 w 1; 2 v 1", "0.0 -7; div 1.0"},
		row{"3 0 2", "big 0.0"})
	// At a later instant of an event.
	asks(t, "hybrid main(v: rat) returns (y: rat) var b: bool; let b = up(v - 1); y = if b then 1 / (v - 2) else 5; tel",
		row{"3 1 8; 1 v 2", "0.0 5; div 1.0"},
		row{"3 1 8; 1 v 3", "0.0 5; 1.0 5; 1.1 1; done 3.0"})
	asks(t, "hybrid main(v: rat) returns (y: rat init 1) var b: bool; let b = up(v - 1); present b then { y = 16 / (v - 2); } else { y = 5; }; tel",
		row{"3 1 5; 1 v 2", "0.0 5; 1.0 5; div 1.1"},
		row{"3 1 5; 1 v 3", "0.0 5; 1.0 5; 1.1 16; done 3.0"},
		row{"3 1 5; 1 v 31", "0.0 5; 1.0 5; 1.1 16/29; done 3.0"},
		row{"3 1 4; 1 v 3", "0.0 5; 1.0 5; big 1.1"})
}

func TestTooBigToGoOn(t *testing.T) {
	// 12.2: if the next time has too many bits, or a der then, the run ends at the last instant, which is told.
	asks(t, "hybrid main(v: rat) returns (x: rat) let der x = 2 init 0; tel",
		row{"5 0 2; 1 v 1", "0.0 0; 1.0 2; done 5.0"},
		row{"5 0 2; 1 v 1; 2 v 0", "0.0 0; 1.0 2; big 1.0"},
		row{"5 0 3; 1 v 1; 2 v 0", "0.0 0; 1.0 2; 2.0 4; done 5.0"},
		row{"5 0 3; 1 v 1; 4 v 0", "0.0 0; 1.0 2; big 1.0"},
		row{"5 0 2; 3 v 1", "0.0 0; big 0.0"})
	asks(t, "hybrid main(v: rat) returns (x: rat) let x = v; tel",
		row{"5 0 2; 1 v 1; 4 v 2", "0.0 0; 1.0 1; big 1.0"},
		row{"5 0 2; 1 v 1; 3 v 2", "0.0 0; 1.0 1; 3.0 2; done 5.0"},
		row{"5 0 2; 1/3 v 1; 1/2 v 2; 3/5 v 0", "0.0 0; 1/3.0 1; 1/2.0 2; big 1/2.0"},
		row{"5 0 1", "0.0 0; done 5.0"},
		row{"2^900 0 900; 2^899 v 1", "0.0 0; " + rat2(899) + ".0 1; done " + rat2(900) + ".0"},
		row{"2^900 0 900; 2^899 v 1; 2^900 v 2", "0.0 0; " + rat2(899) + ".0 1; big " + rat2(899) + ".0"})
	// A time that is behind the horizon is not asked for its bits, nor is the horizon.
	asks(t, "hybrid main() returns (b: bool) var x: rat; let der x = 1 / 2 init -2; b = up(x); tel",
		row{"3 0 2", "0.0 false; done 3.0"},
		row{"4 0 2", "0.0 false; big 0.0"},
		row{"4 0 3", "0.0 false; 4.0 true; done 4.0"})
	// Behind a cascade the last instant is its last one.
	asks(t, "hybrid main(v: rat) returns (b: bool) let b = up(v - 1); tel",
		row{"5 1 2; 1 v 2; 4 v 1", "0.0 false; 1.0 false; 1.1 true; big 1.1"})
}

func rat2(k int64) string { return bigOf(rat("2^" + strconv.Itoa(int(k)))).RatString() }

func TestFaster(t *testing.T) {
	// R1: events that come faster and faster end the run, when a number has too many bits.
	c, ins := compiled(t, "hybrid main() returns (y: rat) var x: rat; let der x = 1 init 0 reset 0 when up(x - y); y = 1 -> pre y / 2; tel")
	is(t, "8 bits", ran(c, ins, scripted("9 0 8")), "0.0 1; 1.0 1/2; 3/2.0 1/4; 7/4.0 1/8; 15/8.0 1/16; 31/16.0 1/32; 63/32.0 1/64; 127/64.0 1/128; big 255/128.0")
	got, err := sim.Run(c, ins, scripted("9 0 900"))
	if err != api.OK || got.End != api.EndBig || len(got.Entries) != 900 {
		t.Error(err, got.End, len(got.Entries))
	}
}

func TestRefused(t *testing.T) {
	// 21.1, 21.2: ErrCode of code that may not run, and of inputs that are not as many; else ErrScript of a script that is not right.
	one := api.Code{Ins: 1, Outs: 1, Slots: 1, Step: body("in >0 k0; out k0 <0")}
	bad := api.Code{Ins: 1, Outs: 1, Slots: 1, Step: body("out k0 <0")}
	const changed = "3 0 8; 1 v 1"
	for _, x := range []struct {
		what, ins, script, want string
		code                    api.Code
	}{
		{"right", "v", changed, "0.0 0; 1.0 1; done 3.0", one},
		{"code that is not right", "v", changed, "ErrCode", bad},
		{"too many inputs", "v,w", changed, "ErrCode", one},
		{"an input too many of the same name", "v,v", changed, "ErrCode", one},
		{"an input of none", "v", changed, "ErrCode", api.Code{}},
		{"both wrong", "v", "-1 0 8", "ErrCode", bad},
		{"too many, and a wrong script", "v,w", "-1 0 8", "ErrCode", one},
		{"a horizon below 0", "v", "-1/9 0 8", "ErrScript", one},
		{"a cascade below 0", "v", "3 -1 8", "ErrScript", one},
		{"a cascade too great", "v", "3 1000000 8", "ErrScript", one},
		{"the greatest cascade", "v", "3 999999 8", "0.0 0; done 3.0", one},
		{"no bits", "v", "3 0 0", "ErrScript", one},
		{"bits below 0", "v", "3 0 -1", "ErrScript", one},
		{"too many bits", "v", "3 0 901", "ErrScript", one},
		{"the most bits", "v", "3 0 900", "0.0 0; done 3.0", one},
		{"a change below 0", "v", "3 0 8; -1 v 1", "ErrScript", one},
		{"a change behind the horizon", "v", "3 0 8; 1 v 1; 22/7 v 1", "ErrScript", one},
		{"changes that fall", "v", "3 0 8; 2 v 1; 1 v 1", "ErrScript", one},
		{"an input that is none", "v", "3 0 8; 1 v 1; 2 w 1", "ErrScript", one},
		{"an input that is another one", "w", changed, "ErrScript", one},
	} {
		is(t, x.what, ran(x.code, strings.Split(x.ins, ","), scripted(x.script)), x.want)
	}
	is(t, "no inputs", ran(one, nil, scripted("3 0 8")), "ErrCode")
	is(t, "nothing", ran(api.Code{}, nil, scripted("3 0 8")), "0.0; done 3.0")
	is(t, "a change for none", ran(api.Code{}, nil, scripted(changed)), "ErrScript")
	is(t, "no script", ran(api.Code{}, nil, api.Script{}), "ErrScript")
}

func TestForms(t *testing.T) {
	// A number of a script counts as the number that it says, whatever its form; what is told is as it is told.
	c, ins := compiled(t, "hybrid main(v: rat) returns (x: rat, b: bool) let der x = v init 0; b = up(x - 1); tel")
	for _, horizon := range forms(rat("7/2")) {
		for _, at := range forms(rat("3/2")) {
			for _, value := range forms(rat("-2/3")) {
				s := api.Script{Horizon: horizon, Bits: 9, Changes: []api.Change{{At: rat("0"), Input: "v", Value: rat("2/3")}, {At: at, Input: "v", Value: value}}}
				is(t, "forms", ran(c, ins, s), "0.0 0 false; 3/2.0 1 true; done 7/2.0")
			}
		}
	}
	for _, nought := range forms(rat("0")) {
		s := api.Script{Horizon: nought, Bits: 1, Changes: []api.Change{{At: nought, Input: "v", Value: nought}}}
		is(t, "forms of 0", ran(c, ins, s), "0.0 0 false; done 0.0")
	}
}
