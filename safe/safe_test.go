package safe_test

import (
	"math"
	"slices"
	"testing"

	"foliot/api"
)

func TestExample(t *testing.T) {
	right(t, "neg of what nothing wrote", false, api.Code{Slots: 1, Step: body("neg <0")})
	right(t, "neg of what nothing wrote ahead", false, api.Code{Slots: 1, Step: body("neg <0; lit; neg <0")})
	right(t, "neg of what was written", true, api.Code{Slots: 1, Step: body("lit; neg <0")})
	right(t, "all", true, all())
	right(t, "nothing", true, api.Code{})
	right(t, "empty bodies", true, api.Code{Mems: []api.Value{}, Conts: []api.Value{}, Step: []api.Ins{}, Deriv: []api.Ins{}, Cross: []api.Ins{}})
}

func TestCounts(t *testing.T) {
	// 16.1: from 0 to MaxCode; and as many as are asked for.
	for what, at := range map[string]struct {
		count func(c *api.Code) *int
		used  int
	}{
		"Ins":     {func(c *api.Code) *int { return &c.Ins }, 2},
		"Outs":    {func(c *api.Code) *int { return &c.Outs }, 2},
		"Slots":   {func(c *api.Code) *int { return &c.Slots }, 30},
		"Crosses": {func(c *api.Code) *int { return &c.Crosses }, 2},
		"Lines":   {func(c *api.Code) *int { return &c.Lines }, 10},
	} {
		for n, want := range map[int]bool{math.MinInt: false, -1: false, 0: true, 1: true, api.MaxCode: true, api.MaxCode + 1: false, 1 << 32: false, math.MaxInt: false} {
			var c api.Code
			*at.count(&c) = n
			right(t, what, want, c)
			spoiled(t, want && n >= at.used, what, func(c *api.Code) { *at.count(c) = n })
		}
		spoiled(t, true, what, func(c *api.Code) { *at.count(c) = at.used })
		spoiled(t, false, what, func(c *api.Code) { *at.count(c) = at.used - 1 })
	}
	for what, kept := range map[string]func(c *api.Code) *[]api.Value{"Mems": func(c *api.Code) *[]api.Value { return &c.Mems }, "Conts": func(c *api.Code) *[]api.Value { return &c.Conts }} {
		for n, want := range map[int]bool{0: false, 1: false, 2: true, 3: true, api.MaxCode + 1: true} { // there may be any number of these
			spoiled(t, want, what, func(c *api.Code) { *kept(c) = make([]api.Value, n) })
			c := api.Code{}
			*kept(&c) = make([]api.Value, n)
			right(t, what, true, c)
		}
	}
}

func TestLastPlaces(t *testing.T) {
	// 16.1: at MaxCode, the last ones of all places are such.
	c := api.Code{Ins: api.MaxCode, Outs: api.MaxCode, Slots: api.MaxCode, Crosses: api.MaxCode, Lines: api.MaxCode,
		Step: body("in >65535 k65535; flag k65535; out k65535 <65535"), Cross: body("lvar >65535 <65535; ask k65535 <65535")}
	right(t, "last places", true, c)
	for _, l := range [][]api.Ins{c.Step, c.Cross} {
		for i, x := range l {
			behind := func(what string, is bool, change func(x *api.Ins)) {
				if is {
					change(&l[i])
					right(t, what, false, c)
					l[i] = x
				}
			}
			behind("a K", x.K > 0, func(x *api.Ins) { x.K++ })
			behind("a Dst", x.Dst > 0, func(x *api.Ins) { x.Dst++ })
			behind("an Arg", len(x.Args) > 0, func(x *api.Ins) { x.Args = []int{65536} })
			behind("a Guard", true, func(x *api.Ins) { x.Guard = 65536 })
		}
	}
	right(t, "as it was", true, c)
}

func TestOps(t *testing.T) {
	// 16.1: each body has Ops of its own, with as many Args as they have.
	for b, ops := range opsOf {
		for _, op := range allOps() {
			for n := range 7 {
				x := api.Ins{Op: op, Dst: 1, Args: []int{1, 1, 1, 1, 1, 1}[:n], K: 1, Guard: -1}
				spoiled(t, isMany(ops[op], n), op, func(c *api.Code) { *bodies(c)[b] = slices.Insert(*bodies(c)[b], 2, x) })
				spoiled(t, isMany(ops[op], n), op, func(c *api.Code) { *bodies(c)[b] = append(*bodies(c)[b], x) })
			}
		}
	}
}

func bodies(c *api.Code) []*[]api.Ins { return []*[]api.Ins{&c.Step, &c.Deriv, &c.Cross} }

// place is one of what an instruction reads: of how many the first ones are there, and may it be below 0.
type place struct {
	what string
	of   func(c *api.Code) *int
	n    int
	none bool
}

// places are all those of the code that has everything.
func places() []place {
	var out []place
	c := all()
	for b, l := range bodies(&c) {
		written := 0
		for at, x := range *l {
			slots, lines := written, 0
			if b > 0 {
				slots, lines = 30, written
			}
			what := x.Op + " "
			ins := func(c *api.Code) *api.Ins { return &(*bodies(c)[b])[at] }
			out = append(out, place{what + "Guard", func(c *api.Code) *int { return &ins(c).Guard }, slots, true})
			for i := range x.Args {
				arg := place{what + "Arg", func(c *api.Code) *int { return &ins(c).Args[i] }, slots, b == 1 && i%2 == 0}
				if b == 2 && x.Op != "lvar" && (x.Op != "lsel" || i > 0) {
					arg.n = lines
				}
				out = append(out, arg)
			}
			for i := range x.Resets {
				out = append(out, place{what + "Reset", func(c *api.Code) *int { return &ins(c).Resets[i] }, slots, false})
			}
			if !isEnd(x.Op) && x.Op != "ask" {
				written++
			}
		}
	}
	return out
}

func TestPlaces(t *testing.T) {
	// 16.1: what is read was written: in Step ahead; in Deriv, and slots in Cross, in Step; lines ahead in Cross. A guard may be below 0.
	for _, p := range places() {
		for _, v := range []int{math.MinInt, -2, -1, 0, p.n - 1, p.n, 9, 10, 29, 30, 39, 40, 41, api.MaxCode, math.MaxInt} {
			spoiled(t, 0 <= v && v < p.n || v < 0 && p.none, p.what, func(c *api.Code) {
				c.Slots, c.Lines = 40, 40 // that are there does not help those that nothing wrote
				*p.of(c) = v
			})
		}
	}
	if len(places()) < 100 {
		t.Error(len(places()))
	}
}

func TestWhoWrites(t *testing.T) {
	// 16.1: equations' Ops alone write slots, in Step alone; Ops of Cross but ask write lines. It may be written again, or not be read.
	put := func(want bool, what, step, deriv, cross string) {
		t.Helper()
		spoiled(t, want, what, func(c *api.Code) {
			c.Slots, c.Lines = 40, 40
			c.Step, c.Deriv, c.Cross = append(c.Step, body(step)...), append(c.Deriv, body(deriv)...), append(c.Cross, body(cross)...)
		})
	}
	for _, op := range []string{"keep", "state", "out", "again"} {
		put(false, op, op+" >35 <0; again <35", "", "")
		put(false, op, op+" >35 <0; lit ?35", "", "")
		put(false, op, op+" >35 <0", "slope <-1,35", "")
		put(false, op, op+" >35 <0", "slope ?35", "")
		put(false, op, op+" >35 <0", "", "lvar <35")
		put(false, op, op+" >35 <0", "", "lcont ?35")
		put(true, op, op+" >35 <0; lit >35; again <35", "slope <35,35 ?35", "lvar <35 ?35; lsel <35,0,0")
	}
	for _, x := range body("lit; in; mem; cont; flag; copy <0; neg <0; not <0; floor <0; rat <0; gand <0; mrg <0; + <0,0; - <0,0; * <0,0; / <0,0; div <0,0; mod <0,0; < <0,0; <= <0,0; > <0,0; >= <0,0; == <0,0; != <0,0; and <0,0; or <0,0; sel <0,0,0") {
		x.Dst = 35
		spoiled(t, true, x.Op, func(c *api.Code) {
			c.Slots = 40
			c.Step = append(append(c.Step, x), body("again <35; keep <35 ?35 !35; mem >36 !35")...)
			c.Deriv, c.Cross = body("slope <35,36 ?35"), body("lvar >0 <35 ?36")
		})
	}
	put(false, "in Deriv", "again <35", "slope >35", "")
	put(false, "in Deriv", "", "slope >35; slope <-1,35", "")
	put(false, "in Deriv", "", "slope >35", "lvar <35")
	put(false, "in Cross", "", "slope <-1,35", "lcont >35")
	put(false, "in Cross", "", "", "lcont >35; lvar <35")
	put(false, "a slot is no line", "lit >35", "", "lneg <35")
	put(false, "an ask", "", "", "ask >35 <0; lneg <35")
	put(false, "an ask", "", "", "ask >35 <0; ask <35")
	for _, x := range body("lvar <0; lcont; lneg <0; l+ <0,0; l- <0,0; l* <0,0; l/ <0,0; lsel <29,0,0") {
		x.Dst = 35
		spoiled(t, true, x.Op, func(c *api.Code) {
			c.Lines = 40
			c.Cross = append(append(c.Cross, x), body("ask <35; lneg >36 <35; lsel >36 <0,35,36; l- >0 <36,35")...)
		})
	}
	put(true, "written again", "lit; in; lit; neg <0", "slope; slope; slope k1", "lcont; lcont; ask <0; ask <0; ask k1 <0; lneg <0")
	put(true, "by itself", "lit >35; + >35 <35,35 ?35; mem >35 !35,35", "", "lcont >35; l+ >35 <35,35")
	put(false, "by itself", "+ >35 <0,35", "", "")
	put(false, "by itself", "lit >35 ?35", "", "")
	put(false, "by itself", "mem >35 !35", "", "")
	put(false, "by itself", "", "", "l+ >35 <0,35")
	put(false, "by itself", "", "", "lneg >35 <35")
}

func TestResets(t *testing.T) {
	// 16.1: mem, cont, keep, state alone have Resets; any number of them.
	for b, l := range bodies(&api.Code{Step: all().Step, Deriv: all().Deriv, Cross: all().Cross}) {
		for at, x := range *l {
			may := slices.Contains([]string{"mem", "cont", "keep", "state"}, x.Op)
			for _, row := range [][]int{{0}, {1, 1}, {0, 1, 0, 1, 0}} {
				if at > 1 || b > 0 {
					spoiled(t, may, x.Op, func(c *api.Code) { (*bodies(c)[b])[at].Resets = row })
				}
			}
			spoiled(t, true, x.Op, func(c *api.Code) { (*bodies(c)[b])[at].Resets = []int{} })
			spoiled(t, true, x.Op, func(c *api.Code) { (*bodies(c)[b])[at].Resets = nil })
		}
	}
	spoiled(t, false, "none that is there", func(c *api.Code) { c.Step[0].Resets = []int{0} })
}

func TestK(t *testing.T) {
	// 16.1: a K that an Op needs is a place; another one may be any.
	of := map[string]int{"in": 3, "out": 4, "flag": 5, "ask": 5, "mem": 6, "keep": 6, "cont": 7, "state": 7, "slope": 7, "lcont": 7, "l*": 2}
	c := all()
	for b, l := range bodies(&c) {
		for at, x := range *l {
			for _, k := range []int{math.MinInt, -1, 0, 1, 2, 3, 4, 5, 6, 7, api.MaxCode, math.MaxInt} {
				n, needed := of[x.Op]
				spoiled(t, !needed || 0 <= k && k < n, x.Op, func(c *api.Code) {
					c.Ins, c.Outs, c.Crosses, c.Mems, c.Conts = 3, 4, 5, make([]api.Value, 6), make([]api.Value, 7)
					(*bodies(c)[b])[at].K = k
				})
			}
		}
	}
}

func TestDst(t *testing.T) {
	// 16.1: the Dst of what writes a slot, a line, is one; another one may be any.
	c := all()
	for b, l := range bodies(&c) {
		for _, x := range *l {
			n := []int{30, 0, 10}[b]
			writes := b == 0 && !isEnd(x.Op) || b == 2 && x.Op != "ask"
			for _, v := range []int{math.MinInt, -1, 0, n - 1, n, n + 1, api.MaxCode, math.MaxInt} {
				x.Dst = v
				spoiled(t, !writes || 0 <= v && v < n, x.Op, func(c *api.Code) { *bodies(c)[b] = append(*bodies(c)[b], x) })
			}
		}
	}
}

func TestOrders(t *testing.T) {
	// 16.1: Step and Cross go from the first one on; Deriv reads all that Step writes, its order is nothing.
	c := all()
	for b, l := range bodies(&c) {
		for at := range *l {
			less := all()
			*bodies(&less)[b] = slices.Delete(*bodies(&less)[b], at, at+1)
			right(t, "one less", isRight(less), less)
		}
		spoiled(t, b == 1, "turned", func(c *api.Code) { slices.Reverse(*bodies(c)[b]) })
		spoiled(t, b == 1 || b == 2, "none", func(c *api.Code) { *bodies(c)[b] = nil })
	}
	spoiled(t, false, "no Step", func(c *api.Code) { c.Step, c.Deriv = nil, nil })
	spoiled(t, false, "no Step", func(c *api.Code) { c.Step, c.Cross = nil, nil })
	spoiled(t, true, "no Step", func(c *api.Code) {
		c.Step, c.Deriv, c.Cross = nil, body("slope ?-1; slope k1"), body("lcont ?-7; lneg >1 <0; ask <1")
	})
	for i := range 3 {
		for k := range 3 {
			if i != k {
				spoiled(t, false, "of another body", func(c *api.Code) { *bodies(c)[i] = append(*bodies(c)[i], (*bodies(c)[k])[0]) })
			}
		}
	}
}

func TestValues(t *testing.T) {
	// 16.1: no value is asked for: a Lit, what memories and states begin with may be any, whatever the Op.
	odd := api.Value{Kind: 70, Name: "x", Num: api.Rat{Num: api.Int{Neg: true, Mag: []uint32{0}}, Den: []uint32{0, 0}}}
	spoiled(t, true, "values", func(c *api.Code) {
		c.Mems[0], c.Conts[1] = odd, odd
		for _, l := range bodies(c) {
			for i := range *l {
				(*l)[i].Lit = odd
			}
		}
	})
}
