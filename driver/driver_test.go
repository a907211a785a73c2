package driver_test

import (
	"reflect"
	"slices"
	"strconv"
	"strings"
	"testing"

	"foliot/api"
	"foliot/code"
	"foliot/driver"
	"foliot/flat"
	"foliot/plan"
)

const saw = "hybrid main(v: rat) returns (x: rat) let der x = 1 init 0 reset 0 when up(x - 1); tel"

func TestExamples(t *testing.T) {
	// The chapter's.
	refuses(t, "x", "syntax ErrWant 0")
	tells(t, saw, "", "script ErrScript 1")
}

func TestWhole(t *testing.T) {
	// The document's examples of the whole, as far as they are of this layer.
	runs(t, saw, "5/2 0 64", "trace 0 0: 0; 1 0: 0; 2 0: 0; done 5/2")
	runs(t, saw, "5/2 0 64; 1/2 v 1", "trace 0 0: 0; 1/2 0: 1/2; 1 0: 0; 2 0: 0; done 5/2")
	runs(t, "node main(v: rat) returns (n: int) let n = 0 -> pre n + 1; tel", "3 0 64; 1 v 5; 2 v 5; 3 v 7", "trace 0 0: 0; 1 0: 1; 2 0: 2; 3 0: 3; done 3")
	runs(t, "hybrid main() returns (x: rat init 0, b: bool) let automaton state A { der x = 1; b = false; } until up(x - 1) then B state B { der x = -1; b = true; } until up(-x) then A end; tel", "3/2 1 64", "trace 0 0: 0 false; 1 0: 1 false; 1 1: 1 true; done 3/2")
	refuses(t, "node main() returns (x: int, y: int) let x = y; y = x; tel", "static ErrCause 0")
	runs(t, "node main() returns (x: int, y: int) let x = 0 fby y; y = x + 1; tel", "1 0 64", "trace 0 0: 0 1; done 1")
	runs(t, "node main(v: rat) returns (x: rat) let x = 1 / v; tel", "3 5 64", "stop div 0 0")
	runs(t, "node main() returns (x: int) let automaton state A { x = 0; } until true then A end; tel", "3 2 64", "stop 0 0: 0; 0 1: 0; 0 2: 0; cascade 0 2")
	runs(t, "hybrid main() returns (q: rat) var x: rat; let der x = 1 init 0 reset 0 when up(x - 1); q = 1 -> pre q / 3; tel", "20 5 8", "stop 0 0: 1; 1 0: 1/3; 2 0: 1/9; 3 0: 1/27; 4 0: 1/81; 5 0: 1/243; big 6 0")
	refuses(t, "hybrid main() returns (x: rat) let der x = x init 0; tel", "static ErrKind 43")
	refuses(t, "node main() returns (x: int) let x = pre x; tel", "static ErrInit 37")
	refuses(t, bracketed(160), "syntax ErrDeep 197")
}

// bracketed is a source with so many brackets around a number.
func bracketed(n int) string {
	return "node main() returns (x: int) let x =  " + strings.Repeat("(", n) + "1" + strings.Repeat(")", n) + "; tel"
}

func TestSyntax(t *testing.T) {
	// 22.1: what is wrong with a source as tokens, as a tree, by its first place.
	for source, want := range map[string]string{
		"hybrid main( returns":                                "ErrWant 13",
		"node main() returns (x: int) let x = 1; tel ?":       "ErrByte 44",
		"node main() returns (x: int) let x = 1; tel \xff":    "ErrByte 44",
		"node main() returns (x: int) let x = 1; tel )":       "ErrWant 44",
		"node main() returns (x: int) let x = 1":              "ErrWant 38",
		"node main() returns (x: int) let x = 1 < 2 < 3; tel": "ErrWant 43",
		"node main() returns () let tel":                      "ErrWant 21",
		strings.Repeat(" ", api.MaxSource+1):                  "ErrLong 65536",
		saw + strings.Repeat("\n", api.MaxSource+1-len(saw)):  "ErrLong 65536",
		strings.Repeat("?", api.MaxSource+1):                  "ErrLong 65536",
		"x " + strings.Repeat("1", api.MaxDigits+1):           "ErrWant 0",
		numbered(strings.Repeat("1", api.MaxDigits+1)):        "ErrLong 36",
		numbered("1." + strings.Repeat("0", api.MaxDigits+1)): "ErrLong 36",
		numbered(strings.Repeat("- ", api.MaxDepth) + "1"):    "ErrDeep 36",
		numbered("1" + strings.Repeat(" + 1", api.MaxDepth)):  "ErrDeep 194",
		bracketed(159):    "ErrDeep 197",
		bracketed(100000): "ErrLong 65536",
		"node main() returns (x: int) let x = 1; tel node main(": "ErrWant 54",
	} {
		refuses(t, source, "syntax "+want)
	}
}

// numbered is a source whose output is this number.
func numbered(number string) string {
	return "node main() returns (x: rat) let x =" + number + "; tel"
}

func TestSyntaxEdges(t *testing.T) {
	// 22.1: what is as long, as deep, as open as may be is taken.
	spaces := strings.Repeat(" ", api.MaxSource-len(saw))
	runs(t, saw+spaces, "0 0 8", "trace 0 0: 0; done 0")
	runs(t, spaces+saw, "0 0 8", "trace 0 0: 0; done 0")
	runs(t, bracketed(158), "0 0 8", "trace 0 0: 1; done 0")
	runs(t, numbered(strings.Repeat("- ", api.MaxDepth-2)+"1"), "0 0 8", "trace 0 0: 1; done 0")
	nines := strings.Repeat("9", api.MaxDigits)
	runs(t, numbered(nines), "0 0 900", "stop big 0 0")
	runs(t, numbered(strings.Repeat("0", api.MaxDigits-1)+"7."+strings.Repeat("0", api.MaxDigits)), "0 0 900", "trace 0 0: 7; done 0")
	runs(t, "node main() returns (x: rat init "+nines+") let x = last x; tel", "0 0 1", "trace 0 0: "+nines+"; done 0")
}

func TestStatic(t *testing.T) {
	// 22.1: what is wrong with a program's names, types, kinds, beginnings, weight, causes; what a layer ahead says comes first.
	for source, want := range map[string]string{
		"":                                   "ErrMain 0",
		"-- nothing":                         "ErrMain 0",
		"type t = {A}; type t = {B}; " + saw: "ErrTwice 14",
		"node main(v: rat) returns (x: rat) let x = y; tel":                                                      "ErrName 43",
		"node main(v: rat) returns (x: rat) let v = 1; x = 1; tel":                                               "ErrDef 39",
		"node main(v: rat) returns (x: rat) let tel":                                                             "ErrDef 27",
		"node main(v: rat) returns (x: rat) let x = f(v, v); tel node f(a: rat) returns (b: rat) let b = a; tel": "ErrCall 43",
		"node main() returns (x: int) let x = f(); tel node f() returns (y: int) let y = f(); tel":               "ErrRound 46",
		"node f() returns (x: int) let x = 1; tel":                                                               "ErrMain 0",
		" node main(a: rat, b: int) returns (x: int) let x = 1; tel":                                             "ErrMain 1",
		"node main(v: rat) returns (x: rat) let present v > 0 then { x = 1; } else { }; tel":                     "ErrBranch 39",
		"node main(v: rat) returns (x: rat) let x = true + 1; tel":                                               "ErrType 48",
		"node main() returns (x: rat init 0) let der x = 1; tel":                                                 "ErrKind 40",
		"hybrid main() returns (x: rat init 0) let der x = x; tel":                                               "ErrKind 50",
		"node main() returns (x: int) let x = 1 fby pre x; tel":                                                  "ErrInit 43",
		"node main() returns (x: int, y: int) let x = y; y = x; tel":                                             "ErrCause 0",
		"node main() returns (x: int) let x = x; tel":                                                            "ErrCause 0",
		"node main() returns (x: int, y: int) let x = x; y = z; tel":                                             "ErrName 52",
		"node main() returns (x: int, y: int) let x = x; y = 1.5; tel":                                           "ErrType 52",
		"node main() returns (x: int) let x = x; tel node f() returns (y: int) let y = pre y; tel":               "ErrInit 78",
		" " + outputs(api.MaxFlat/3+1, "1"):                                                                      "ErrBig 1",
		" " + outputs(api.MaxFlat/3+1, "x0"):                                                                     "ErrBig 1",
		" " + outputs(api.MaxFlat/3, "x0"):                                                                       "ErrCause 0",
	} {
		refuses(t, source, "static "+want)
	}
	// What is as heavy as may be is taken.
	if _, _, o := driver.Build([]byte(outputs(api.MaxFlat/3, "1"))); textOf(o) != "none" {
		t.Error(o)
	}
}

// outputs is a source of so many outputs, a weight of three each, each the same.
func outputs(n int, same string) string {
	var vars, eqs []string
	for i := range n {
		name := "x" + strconv.Itoa(i)
		vars, eqs = append(vars, name+": int"), append(eqs, name+" = "+same+";")
	}
	return "node main() returns (" + strings.Join(vars, ", ") + ") let " + strings.Join(eqs, " ") + " tel"
}

func TestScripts(t *testing.T) {
	// 22.1: a text that is no script's, by its line.
	head := "horizon 5\ncascade 2\nbits 64\n"
	for text, want := range map[string]string{
		"":                                      "ErrScript 1",
		"\n":                                    "ErrScript 1",
		"horizon 5":                             "ErrScript 1",
		"horizon x\n":                           "ErrScript 1",
		"horizon 5\n":                           "ErrScript 2",
		"horizon 5\ncascade 1":                  "ErrScript 2",
		"horizon 5\ncascade 1234567\nbits 64\n": "ErrScript 2",
		"horizon 5\ncascade 1\nbits\n":          "ErrScript 3",
		head + "\n":                             "ErrScript 4",
		head + "at 1 v = 1":                     "ErrScript 4",
		head + "at 1 v = 1\nat 1 V = 1\n":       "ErrScript 5",
		head + "at 1 u = 1\nat 1 v := 1\n":      "ErrScript 5", // a wrong line comes ahead of an input that is none
		strings.Repeat("x", api.MaxSource+1):    "ErrLong 0",
		head + strings.Repeat("at 1 v = 1\n", 6000):      "ErrLong 0",
		"horizon " + strings.Repeat("1", 301) + "\n":     "ErrScript 1",
		"horizon 1/0\ncascade 1\nbits 64\n":              "ErrScript 1",
		"horizon 5\r\ncascade 2\r\nbits 64\r\n":          "ErrScript 1",
		head + "at 1/2 v = 1\nat 1/3 v = 1\nhorizon 5\n": "ErrScript 6",
		// One that is not right for main's inputs has no line.
		head + "at 1 u = 1\n":                        "ErrScript 0",
		head + "at 1 x = 1\n":                        "ErrScript 0",
		head + "at 1 main = 1\n":                     "ErrScript 0",
		head + "at 1 v = 1\nat 5 u = 1\n":            "ErrScript 0",
		head + "at 1/2 v = 1\nat 1/3 v = 1\n":        "ErrScript 0",
		head + "at 5.1 v = 1\n":                      "ErrScript 0",
		head + "at -1 v = 1\n":                       "ErrScript 0",
		"horizon -1\ncascade 2\nbits 64\n":           "ErrScript 0",
		"horizon 5\ncascade 2\nbits 0\n":             "ErrScript 0",
		"horizon 5\ncascade 2\nbits 901\n":           "ErrScript 0",
		"horizon 5\ncascade 2\nbits 999999\n":        "ErrScript 0",
		"horizon -1\ncascade 2\nbits 0\nat -2 u=1\n": "ErrScript 4",
	} {
		tells(t, saw, text, "script "+want)
	}
	// The inputs are main's, and no other node's.
	tells(t, saw+" node f(u: rat) returns (y: rat) let y = u; tel", head+"at 1 u = 1\n", "script ErrScript 0")
	tells(t, "node main() returns (x: int) let x = 1; tel", head+"at 1 v = 1\n", "script ErrScript 0")
}

func TestScriptEdges(t *testing.T) {
	// 22.1: scripts that are right, at their limits.
	runs(t, saw, "0 0 1", "trace 0 0: 0; done 0")
	runs(t, saw, "-0 0 900", "trace 0 0: 0; done 0")
	runs(t, saw, "2.50 000000 064", "trace 0 0: 0; 1 0: 0; 2 0: 0; done 5/2")
	runs(t, saw, "1/3 999999 900; 0 v 7; 1/3 v 1/3; 1/3 v 0.5", "trace 0 0: 0; 1/3 0: 1/3; done 1/3")
	head := scripted("1/2 0 900; 0 v 1")
	rest := api.MaxSource - len(head)
	lines := strings.Repeat("at 1 v = 1\n", (rest-13)/11)
	lines = strings.ReplaceAll(lines, "at 1", "at 0") + "at 0 v = 1." + strings.Repeat("0", rest-len(lines)-12) + "\n"
	if len(head+lines) != api.MaxSource {
		t.Fatal(len(head + lines))
	}
	tells(t, "node main(v: rat) returns (x: rat) let x = v; tel", head+lines, "trace 0 0: 1; done 1/2")
	tells(t, "node main(v: rat) returns (x: rat) let x = v; tel", head+lines+"\n", "script ErrLong 0")
}

func TestStops(t *testing.T) {
	// 22.1: each way to end, ahead of all instants, and behind some; where the run stops, the trace ahead is told.
	node := func(eqs string) string { return "hybrid main(v: rat) returns (x: rat) let " + eqs + " tel" }
	runs(t, node("x = 1 / v;"), "3 0 64; 0 v 2; 1 v 0", "stop 0 0: 1/2; div 1 0")
	runs(t, node("x = 1 / v;"), "3 0 64; 0 v 2; 1 v 4", "trace 0 0: 1/2; 1 0: 1/4; done 3")
	runs(t, node("x = 3 * v;"), "3 0 3; 1 v 2; 2 v 3", "stop 0 0: 0; 1 0: 6; big 2 0")
	runs(t, node("x = v; reset { } every up(v - 1);"), "3 0 3; 1 v 2", "stop 0 0: 0; 1 0: 2; cascade 1 0")
	runs(t, node("x = v; reset { } every up(v - 1);"), "3 1 3; 1 v 2", "trace 0 0: 0; 1 0: 2; 1 1: 2; done 3")
	runs(t, node("x = v; reset { } every up((v - 1) / (v - 2));"), "3 1 3; 1 v 1; 2 v 2", "stop 0 0: 0; 1 0: 1; div 2 0")
	// A time of too many bits, a state of too many: at the last instant.
	runs(t, node("x = v;"), "9 0 3; 1 v 1; 7 v 2; 8 v 3", "stop 0 0: 0; 1 0: 1; 7 0: 2; big 7 0")
	runs(t, node("der x = 4 init 0;"), "9 0 3; 1 v 1; 2 v 2", "stop 0 0: 0; 1 0: 4; big 1 0")
	runs(t, node("der x = 4 init 0;"), "9 0 3; 1 v 1; 9 v 8", "stop 0 0: 0; 1 0: 4; big 1 0")
	// Halves, and halves of halves: the events' times never come to 2, and sooner or later something has too many bits.
	bounce := "hybrid main() returns (x: rat, s: rat) var z: bool; let der x = -1 init 1 reset s when z; z = up(-x); s = 1 -> if z then pre s / 2 else pre s; tel"
	runs(t, bounce, "2 0 4", "stop 0 0: 1 1; 1 0: 1/2 1/2; 3/2 0: 1/4 1/4; 7/4 0: 1/8 1/8; big 15/8 0")
	runs(t, bounce, "15/8 0 5", "trace 0 0: 1 1; 1 0: 1/2 1/2; 3/2 0: 1/4 1/4; 7/4 0: 1/8 1/8; 15/8 0: 1/16 1/16; done 15/8")
}

func TestValues(t *testing.T) {
	// 22.1: outputs of each type, one by one, nothing of which is left out.
	src := "type light = {Red, Green}; node main(v: rat, u: rat) returns (b: bool, n: int, r: rat, l: light, m: light init Green) let b = v > u; n = floor(v * 2); r = v / 3; l = if b then Red else Green; present b then { m = Red; } else { }; tel"
	runs(t, src, "2 0 64; 1/2 v 5/2; 1 u 3; 1 v -1/2; 2 v 7", "trace 0 0: false 0 0 Green Green; 1/2 0: true 5 5/6 Red Red; 1 0: false -1 -1/6 Green Red; 2 0: true 14 7/3 Red Red; done 2")
	o := driver.Run([]byte(src), []byte(scripted("1 0 64")))
	want := []api.Value{{Kind: api.VBool, Num: rat(0)}, {Kind: api.VNum, Num: rat(0)}, {Kind: api.VNum, Num: rat(0)}, {Kind: api.VCtor, Name: "Green"}, {Kind: api.VCtor, Name: "Green"}}
	if len(o.Trace.Entries) != 1 || !reflect.DeepEqual(o.Trace.Entries[0].Outs, want) {
		t.Error(o)
	}
}

// rat is a number without a sign.
func rat(n uint32) api.Rat {
	out := api.Rat{Den: []uint32{1}}
	if n > 0 {
		out.Num.Mag = []uint32{n}
	}
	return out
}

func TestBuild(t *testing.T) {
	// 22.2: the object code that the layers make of a source; the names of main's inputs, in their order; no outcome.
	for source, ins := range map[string][]string{
		saw: {"v"},
		"node main() returns (x: int) let x = 1; tel":                                                                 nil,
		"node main(b: rat, a: rat, _c9: rat) returns (x: rat) let x = b; tel":                                         {"b", "a", "_c9"},
		"node f(u: rat) returns (y: rat) let y = u; tel node main(a: rat, b: rat) returns (x: rat) let x = f(b); tel": {"a", "b"},
	} {
		f, _, _ := flat.Of(program(t, source))
		p, _ := plan.Of(f)
		want, err := code.Of(f, p)
		c, got, o := driver.Build([]byte(source))
		if err != api.OK || !reflect.DeepEqual(c, want) || !slices.Equal(got, ins) || textOf(o) != "none" {
			t.Errorf("%s\ngot  %v %v %v\nwant %v %v", source, c, got, o, want, ins)
		}
	}
}

func TestNil(t *testing.T) {
	// 22.3: no bytes at all.
	if o := driver.Run(nil, nil); textOf(o) != "static ErrMain 0" {
		t.Error(o)
	}
	if c, ins, o := driver.Build(nil); textOf(o) != "static ErrMain 0" || len(ins) > 0 || !reflect.DeepEqual(c, api.Code{}) {
		t.Error(c, ins, o)
	}
	if o := driver.Run([]byte(saw), nil); textOf(o) != "script ErrScript 1" {
		t.Error(o)
	}
}
