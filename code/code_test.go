package code_test

import (
	"math"
	"reflect"
	"strings"
	"testing"

	"foliot/api"
	"foliot/cause"
	"foliot/code"
	"foliot/plan"
	"foliot/ratio"
)

func TestExample(t *testing.T) {
	f := flatOf(eq(0, "in"), eq(1, "neg", 0))
	f.Ins, f.Outs = []string{"v"}, []int{1}
	p, _ := plan.Of(f)
	c := coded(t, f, p)
	is(t, "out neg in", c.Step, "in; neg >1 <0; out <1")
	if len(c.Deriv) != 0 || len(c.Cross) != 0 || c.Ins != 1 || c.Outs != 1 || c.Slots != 2 || c.Crosses != 0 || c.Lines != 0 || len(c.Mems) != 0 || len(c.Conts) != 0 {
		t.Error(c)
	}
}

func TestCounts(t *testing.T) {
	// 15.1: each count is one of its own; the slots are the plan's, be they used or not.
	f := flatOf(eq(0, "lit"), eq(1, "lit"))
	f.Ins, f.Outs = make([]string, 7), []int{0, 1, 0}
	f.Mems = []api.Mem{{Guard: -1}, {Guard: -1}, {Guard: -1}, {Guard: -1}}
	f.Conts = make([]api.Cont, 6)
	f.Cross = make([]api.Cross, 5)
	for k := range f.Cross {
		f.Cross[k].Ops = []api.COp{{Op: "cont", Args: []int{k}}, {Op: "neg", Args: []int{0}}}
	}
	p := api.Plan{Order: []int{0, 1}, Slot: []int{1, 0}, Slots: math.MaxInt}
	c := coded(t, f, p)
	if c.Ins != 7 || c.Outs != 3 || c.Slots != math.MaxInt || c.Crosses != 5 || c.Lines != 10 || len(c.Mems) != 4 || len(c.Conts) != 6 {
		t.Error(c)
	}
	// Without variables: no slots, also where they are less (a count below 0 counts as 0).
	for slots, want := range map[int]int{0: 0, 3: 3, -3: 0, math.MinInt: 0} {
		c := coded(t, api.Flat{Ins: []string{"u"}}, api.Plan{Slots: slots})
		if !same(c, api.Code{Ins: 1, Slots: want}) {
			t.Error(slots, c)
		}
	}
}

func TestEquations(t *testing.T) {
	// 15.1: all kinds of equations, by slots; in the plan's order, not that in which they stand.
	f := flatOf(reads(0, "in", 1), reads(1, "mem", 2), reads(2, "cont", 1), reads(3, "flag", 2), eq(4, "lit"))
	f.Ins = []string{"u", "v"}
	f.Mems = []api.Mem{{Guard: -1}, {Guard: -1}, {Guard: -1, Resets: []int{3, 0}}}
	f.Conts = []api.Cont{{Guard: -1, Resets: []int{0}}, {Guard: -1, Resets: []int{4, 3, 4}}}
	f.Cross = make([]api.Cross, 3)
	for k := range f.Cross {
		f.Cross[k] = api.Cross{Guard: -1, Ops: []api.COp{{Op: "cont", Args: []int{0}}}}
	}
	c := coded(t, f, apart(4, 3, 0, 2, 1))
	is(t, "what reads", c.Step[:5], "lit >14; flag >13 k2; in >10 k1; cont >12 k1 !14,13,14; mem >11 k2 !13,10")

	var eqs []api.FEq
	order := []int{0, 1, 2}
	for _, op := range strings.Fields("+ - * / div mod < <= > >= == != and or") {
		eqs = append(eqs, eq(3+len(eqs), op, 2, 1))
	}
	for _, op := range strings.Fields("copy neg not floor rat") {
		eqs = append(eqs, eq(3+len(eqs), op, 1))
	}
	eqs = append(eqs, eq(22, "gand", 2), eq(23, "gand", 0, 2, 0), eq(24, "mrg", 1), eq(25, "mrg", 0, 1, 2), eq(26, "sel", 2, 0, 1))
	for _, q := range eqs {
		order = append(order, q.Var)
	}
	f = flatOf(append(eqs, eq(1, "lit"), eq(2, "lit"), eq(0, "lit"))...)
	c = coded(t, f, apart(order...))
	is(t, "what computes", c.Step, "lit >10; lit >11; lit >12; "+
		"+ >13 <12,11; - >14 <12,11; * >15 <12,11; / >16 <12,11; div >17 <12,11; mod >18 <12,11; "+
		"< >19 <12,11; <= >20 <12,11; > >21 <12,11; >= >22 <12,11; == >23 <12,11; != >24 <12,11; and >25 <12,11; or >26 <12,11; "+
		"copy >27 <11; neg >28 <11; not >29 <11; floor >30 <11; rat >31 <11; "+
		"gand >32 <12; gand >33 <10,12,10; mrg >34 <11; mrg >35 <10,11,12; sel >36 <12,10,11")
}

func TestGuards(t *testing.T) {
	// 15.1: a guard is a slot; -1, whatever is below 0 there.
	f := flatOf(eq(0, "lit"), guarded(eq(1, "lit"), 0), guarded(reads(2, "mem", 0), 1), guarded(eq(3, "neg", 1), math.MinInt), guarded(reads(4, "cont", 0), -2))
	f.Mems = []api.Mem{{Next: 3, Guard: 2}, {Next: 0, Guard: -5}}
	f.Conts = []api.Cont{{Var: 4, Guard: 3}, {Var: 1, Guard: math.MinInt}}
	f.Cross = []api.Cross{{Guard: 4, Ops: []api.COp{{Op: "cont", Args: []int{1}}}}, {Guard: -9, Ops: []api.COp{{Op: "var", Args: []int{3}}}}}
	f.Outs, f.Again = []int{3}, []int{1}
	c := coded(t, f, apart(0, 1, 2, 3, 4))
	is(t, "Step", c.Step, "lit >10; lit >11 ?10; mem >12 ?11; neg >13 <11; cont >14; keep <13 ?12; keep <10 k1; state <14 ?13; state <11 k1; out <13; again <11")
	is(t, "Deriv", c.Deriv, "slope ?13; slope k1")
	is(t, "Cross", c.Cross, "lcont k1 ?14; ask <0 ?14; lvar >1 <13; ask <1 k1")
}

func TestEnds(t *testing.T) {
	// 15.1: memory by memory, state by state, output by output, again by again; with their resets, which who reads them has, too.
	f := flatOf(eq(0, "lit"), eq(1, "lit"), eq(2, "lit"), reads(3, "mem", 1), reads(4, "cont", 0))
	f.Mems = []api.Mem{{Next: 1, Guard: 0}, {Next: 4, Guard: -1, Resets: []int{1, 2, 1}}, {Next: 2, Guard: 2, Resets: []int{3}}}
	f.Conts = []api.Cont{{Var: 3, Guard: 1, Resets: []int{2}}, {Var: 0, Guard: -1, Resets: []int{3, 4}}}
	f.Outs, f.Again = []int{4, 0, 4}, []int{2, 1, 2}
	c := coded(t, f, apart(2, 1, 0, 3, 4))
	is(t, "Step", c.Step, "lit >12; lit >11; lit >10; mem >13 k1 !11,12,11; cont >14 !12; "+
		"keep <11 ?10; keep <14 k1 !11,12,11; keep <12 k2 ?12 !13; state <13 ?11 !12; state <10 k1 !13,14; "+
		"out <14; out <10 k1; out <14 k2; again <12; again <11; again <12")
}

func TestDeriv(t *testing.T) {
	// 15.1: a state's slopes, by two; none; a guard below 0.
	f := flatOf(eq(0, "lit"), eq(1, "lit"), eq(2, "lit"))
	f.Conts = []api.Cont{
		{Guard: -1, Slopes: []api.Slope{{Guard: 2, Var: 0}, {Guard: -7, Var: 1}, {Guard: 2, Var: 2}}},
		{Guard: 1},
		{Guard: 0, Resets: []int{1}, Slopes: []api.Slope{{Guard: -1, Var: 2}}},
	}
	c := coded(t, f, apart(0, 1, 2))
	is(t, "Deriv", c.Deriv, "slope <12,10,-1,11,12,12; slope k1 ?11; slope <-1,12 k2 ?10")
}

func TestCross(t *testing.T) {
	// 15.1: operations by lines, which are counted on from crossing to crossing; a state by its number, a variable by its slot.
	ops := []api.COp{
		{Op: "var", Args: []int{2}}, {Op: "cont", Args: []int{1}}, {Op: "neg", Args: []int{1}}, {Op: "+", Args: []int{1, 0}}, {Op: "-", Args: []int{0, 3}},
		{Op: "/", Args: []int{4, 0}}, {Op: "*", Args: []int{5, 2, 1}}, {Op: "*", Args: []int{0, 6, 0}}, {Op: "sel", Args: []int{1, 0, 7}},
	}
	f := flatOf(eq(0, "lit"), eq(1, "lit"), eq(2, "lit"))
	f.Conts = []api.Cont{{Guard: -1}, {Guard: -1}}
	f.Cross = []api.Cross{{Guard: 0, Ops: ops}, {Guard: -1, Ops: ops[:1]}, {Guard: 2, Ops: ops}}
	c := coded(t, f, apart(0, 1, 2))
	is(t, "Cross", c.Cross, "lvar <12 ?10; lcont >1 k1 ?10; lneg >2 <1 ?10; l+ >3 <1,0 ?10; l- >4 <0,3 ?10; "+
		"l/ >5 <4,0 ?10; l* >6 <5,2 k1 ?10; l* >7 <0,6 ?10; lsel >8 <11,0,7 ?10; ask <8 ?10; "+
		"lvar >9 <12; ask <9 k1; "+
		"lvar >10 <12 ?12; lcont >11 k1 ?12; lneg >12 <11 ?12; l+ >13 <11,10 ?12; l- >14 <10,13 ?12; "+
		"l/ >15 <14,10 ?12; l* >16 <15,12 k1 ?12; l* >17 <10,16 ?12; lsel >18 <11,10,17 ?12; ask <18 k2 ?12")
	if c.Lines != 19 || c.Crosses != 3 {
		t.Error(c.Lines, c.Crosses)
	}
}

// odd are values as they may stand in flat programs, whatever they mean.
func odd() []api.Value {
	half, _ := ratio.Parse("-1/2")
	long, _ := ratio.Parse(strings.Repeat("7", 300) + "/" + strings.Repeat("9", 299))
	return []api.Value{
		{}, {Kind: api.VBool, Num: ratio.Of(1)}, {Kind: api.VNum, Num: half}, {Kind: api.VNum, Num: long}, {Kind: api.VCtor, Name: "Red"},
		{Kind: api.VNum, Num: api.Rat{Num: api.Int{Neg: true, Mag: []uint32{4, 0, 0}}, Den: []uint32{6, 0}}, Name: "x"},
		{Kind: 70, Num: api.Rat{Num: api.Int{Neg: true}}, Name: "y"}, {Kind: -1, Num: ratio.Of(5)},
	}
}

func TestValues(t *testing.T) {
	// 15.1: a Lit, and what memories and states begin with, just as they stand there.
	for i, v := range odd() {
		f := flatOf(api.FEq{Op: "lit", Lit: v, Guard: -1}, eq(1, "lit"))
		f.Mems = []api.Mem{{Guard: -1}, {Init: v, Guard: -1}}
		f.Conts = []api.Cont{{Init: v, Guard: -1}, {Guard: -1}}
		c := coded(t, f, apart(0, 1))
		if want := odd()[i]; !reflect.DeepEqual(c.Step[0].Lit, want) || !reflect.DeepEqual(c.Mems, []api.Value{{}, want}) || !reflect.DeepEqual(c.Conts, []api.Value{want, {}}) {
			t.Error(i, c)
		}
	}
}

func TestWhatIsNotNeeded(t *testing.T) {
	// What an instruction does not need is zero, whatever stands in the equation.
	var eqs []api.FEq
	for _, q := range []api.FEq{eq(0, "lit"), eq(1, "in"), eq(2, "mem"), eq(3, "cont"), eq(4, "flag"), eq(5, "copy", 0), eq(6, "gand", 0), eq(7, "mrg", 0), eq(8, "div", 0, 0), eq(9, "sel", 0, 0, 0)} {
		q.Lit = odd()[5]
		q.K = 7
		if 1 <= q.Var && q.Var <= 4 {
			q.K = 0
		}
		eqs = append(eqs, q)
	}
	f := flatOf(eqs...)
	f.Ins, f.Mems, f.Conts, f.Cross = []string{""}, []api.Mem{{Guard: -1}}, []api.Cont{{Guard: -1}}, []api.Cross{{Guard: -1, Ops: []api.COp{{Op: "cont", Args: []int{0}}}}}
	f.Outs, f.Again = []int{9}, []int{9}
	c := coded(t, f, apart(0, 1, 2, 3, 4, 5, 6, 7, 8, 9))
	is(t, "Step", c.Step, "lit >10; in >11; mem >12; cont >13; flag >14; copy >15 <10; gand >16 <10; mrg >17 <10; div >18 <10,10; sel >19 <10,10,10; keep <10; state <10; out <19; again <19")
	for _, body := range [][]api.Ins{c.Step, c.Deriv, c.Cross} {
		for _, x := range body {
			if x.Op != "lit" && !reflect.DeepEqual(x.Lit, api.Value{}) {
				t.Error(x)
			}
		}
	}
}

func TestErrors(t *testing.T) {
	// 15.1: ErrArg, where the plan is not right for the flat program; nothing beside it.
	refused := func(what string, f api.Flat, p api.Plan) {
		t.Helper()
		if c, err := code.Of(f, p); err != api.ErrArg || !same(c, api.Code{}) {
			t.Error(what, c, err)
		}
	}
	f := flatOf(eq(0, "lit"), eq(1, "neg", 0), eq(2, "+", 0, 1))
	f.Outs = []int{2}
	p, _ := plan.Of(f)
	coded(t, f, p)
	refused("no plan", f, api.Plan{})
	refused("too few slots", f, api.Plan{Order: p.Order, Slot: p.Slot, Slots: p.Slots - 1})
	refused("another order", f, api.Plan{Order: []int{1, 0, 2}, Slot: []int{0, 1, 2}, Slots: 3})
	refused("one twice", f, api.Plan{Order: []int{0, 1, 2, 2}, Slot: []int{0, 1, 2}, Slots: 3})
	refused("one slot", f, api.Plan{Order: []int{0, 1, 2}, Slot: []int{0, 0, 1}, Slots: 3})
	refused("a slot less", f, api.Plan{Order: []int{0, 1, 2}, Slot: []int{0, 1}, Slots: 3})
	refused("no slot", f, api.Plan{Order: []int{0, 1, 2}, Slot: []int{0, 1, math.MinInt}, Slots: 3})
	g := flatOf(eq(0, "lit"), eq(1, "lit"))
	refused("another's", g, p)
	q, _ := plan.Of(g)
	refused("another's plan", f, q)
	refused("not good", flatOf(eq(0, "up")), apart(0))
	f.Outs = []int{3}
	refused("not good, by what was its plan", f, p)
	f.Outs = []int{2}
	f.Eqs[0] = eq(0, "neg", 2)
	if _, err := cause.Order(f); err != api.ErrCause {
		t.Fatal(err)
	}
	refused("a circle", f, apart(0, 1, 2))
	refused("nothing, with a plan", api.Flat{}, p)
}
