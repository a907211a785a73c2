package safe_test

import (
	"math/rand"
	"slices"
	"strconv"
	"strings"
	"testing"

	"foliot/api"
	"foliot/safe"
)

func dice(seed int64) *rand.Rand { return rand.New(rand.NewSource(seed)) }

// body reads instructions: of each its Op, > its Dst, < its Args, k its K, ? its Guard (else -1), ! its Resets.
func body(text string) []api.Ins {
	var out []api.Ins
	for _, part := range strings.Split(text, "; ") {
		l := strings.Fields(part)
		if len(l) == 0 {
			continue
		}
		x := api.Ins{Op: l[0], Guard: -1}
		for _, f := range l[1:] {
			var row []int
			for _, n := range strings.Split(f[1:], ",") {
				i, err := strconv.Atoi(n)
				if err != nil {
					panic(part)
				}
				row = append(row, i)
			}
			switch f[0] {
			case '>':
				x.Dst = row[0]
			case '<':
				x.Args = row
			case 'k':
				x.K = row[0]
			case '?':
				x.Guard = row[0]
			case '!':
				x.Resets = row
			default:
				panic(part)
			}
		}
		out = append(out, x)
	}
	return out
}

// opsOf are the Ops that may stand in each body, with how many Args each has; + stands for one at least, % for pairs.
var opsOf = tableOfOps()

func tableOfOps() []map[string]string {
	step := map[string]string{"lit": "0", "in": "0", "mem": "0", "cont": "0", "flag": "0", "gand": "+", "mrg": "+", "sel": "3", "keep": "1", "state": "1", "out": "1", "again": "1"}
	for _, op := range strings.Fields("copy neg not floor rat") {
		step[op] = "1"
	}
	for _, op := range strings.Fields("+ - * / div mod < <= > >= == != and or") {
		step[op] = "2"
	}
	cross := map[string]string{"lvar": "1", "lcont": "0", "lneg": "1", "l+": "2", "l-": "2", "l*": "2", "l/": "2", "lsel": "3", "ask": "1"}
	return []map[string]string{step, {"slope": "%"}, cross}
}

// allOps are the Ops of all bodies, and others.
func allOps() []string {
	out := []string{"", "Lit", " lit", "lit ", "pre", "fby", "->", "last", "up", "if", "var", "l", "lit\x00", "lnot", "lcopy", "ldiv", "lmod", "l<", "llit", "lin", "lmem", "lmrg", "lgand", "store", "jump", "nop", "Slope", "asks", "=", "xor"}
	for _, ops := range opsOf {
		for op := range ops {
			out = append(out, op)
		}
	}
	slices.Sort(out)
	return out
}

// isMany tells whether an Op that has this text in opsOf may have so many Args.
func isMany(text string, n int) bool {
	switch text {
	case "":
		return false
	case "+":
		return n >= 1
	case "%":
		return n%2 == 0
	}
	return text == strconv.Itoa(n)
}

// among tells whether all of a row are places of so many.
func among(n int, row ...int) bool {
	return !slices.ContainsFunc(row, func(i int) bool { return i < 0 || i >= n })
}

// isEnd tells whether an Op of Step is no equation's.
func isEnd(op string) bool { return slices.Contains(strings.Fields("keep state out again"), op) }

// isRight tells what is right by the words of 16.1, each read of each instruction by itself.
func isRight(c api.Code) bool {
	if !among(65537, c.Ins, c.Outs, c.Slots, c.Crosses, c.Lines) {
		return false
	}
	equation := func(x api.Ins) bool { return !isEnd(x.Op) }
	asked := func(x api.Ins) bool { return x.Op != "ask" }
	is := func(body []api.Ins, writes func(api.Ins) bool, n, i int) bool {
		return among(n, i) && slices.ContainsFunc(body, func(x api.Ins) bool { return writes(x) && x.Dst == i })
	}
	for b, l := range [][]api.Ins{c.Step, c.Deriv, c.Cross} {
		for at, x := range l {
			if !isMany(opsOf[b][x.Op], len(x.Args)) || !hasK(c, x) {
				return false
			}
			step := c.Step
			if b == 0 {
				step = c.Step[:at]
			}
			slots, lines := argsOf(b, x)
			for _, i := range slots {
				if !is(step, equation, c.Slots, i) {
					return false
				}
			}
			for _, i := range lines {
				if !is(c.Cross[:at], asked, c.Lines, i) {
					return false
				}
			}
			if len(x.Resets) > 0 && !slices.Contains(strings.Fields("mem cont keep state"), x.Op) {
				return false
			}
			if b == 0 && equation(x) && !among(c.Slots, x.Dst) || b == 2 && asked(x) && !among(c.Lines, x.Dst) {
				return false
			}
		}
	}
	return true
}

// argsOf tells which slots and which lines an instruction of a body reads; a guard below 0 is none.
func argsOf(b int, x api.Ins) (slots, lines []int) {
	if x.Guard >= 0 {
		slots = []int{x.Guard}
	}
	slots = append(slots, x.Resets...)
	switch {
	case b == 0:
		return append(slots, x.Args...), nil
	case b == 1:
		for i, s := range x.Args {
			if i%2 == 1 || s >= 0 {
				slots = append(slots, s)
			}
		}
		return slots, nil
	case x.Op == "lvar":
		return append(slots, x.Args...), nil
	case x.Op == "lsel":
		return append(slots, x.Args[0]), x.Args[1:]
	}
	return slots, x.Args
}

// hasK tells whether an instruction's K is what its Op needs.
func hasK(c api.Code, x api.Ins) bool {
	of := map[string]int{"in": c.Ins, "mem": len(c.Mems), "keep": len(c.Mems), "cont": len(c.Conts), "state": len(c.Conts), "flag": c.Crosses, "out": c.Outs,
		"slope": len(c.Conts), "lcont": len(c.Conts), "l*": 2, "ask": c.Crosses}
	n, needed := of[x.Op]
	return !needed || among(n, x.K)
}

// all makes object code that may run, in which there is of everything; a slot, and a line, are written by one instruction each.
func all() api.Code {
	c := api.Code{Ins: 2, Outs: 2, Slots: 30, Crosses: 2, Lines: 10, Mems: make([]api.Value, 2), Conts: make([]api.Value, 2)}
	c.Step = body("lit; in >1 k1; mem >2 k1 ?0 !1,0; cont >3 k1 !2; flag >4 k1 ?3; " +
		"copy >5 <4; neg >6 <5; not >7 <0; floor >8 <1; rat >9 <2; gand >10 <3,0,3; mrg >11 <4,5,6,7; sel >12 <1,2,3; " +
		"+ >13 <12,1; - >14 <2,13; * >15 <3,3; / >16 <4,15; div >17 <5,0; mod >18 <17,0; < >19 <1,2; <= >20 <1,2; > >21 <1,2; >= >22 <1,2; == >23 <22,21; != >24 <0,0; and >25 <24,1; or >26 <25,1; " +
		"keep k1 <26 ?25 !24,23; state k1 <22 !21; out k1 <20 ?19; again <18; in >27 ?26; mem >28; cont >29; keep <28; state <29 ?28; out <27; again <29 ?-5")
	c.Deriv = body("slope k1 ?29 <28,27,-1,26,-9,25; slope")
	c.Cross = body("lvar <29 ?28; lcont >1 k1; lneg >2 <1; l+ >3 <2,0; l- >4 <0,3; l* >5 <4,1 k1; l* >6 <1,5; l/ >7 <6,0; lsel >8 <27,7,1 ?26; ask k1 <8 ?25; lcont >9; ask <9 ?-2; ask <0")
	return c
}

// right asks whether object code may run.
func right(t *testing.T, what string, want bool, c api.Code) {
	t.Helper()
	if got := safe.Right(c); got != want || isRight(c) != want {
		t.Errorf("%s: got %v, by the words %v", what, got, isRight(c))
	}
}

// spoiled asks that a change makes the code that has everything one that may not run, or, where it may be so, leaves it such.
func spoiled(t *testing.T, want bool, what string, change func(c *api.Code)) {
	t.Helper()
	c := all()
	change(&c)
	right(t, what, want, c)
}
