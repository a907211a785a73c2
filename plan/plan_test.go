package plan_test

import (
	"math"
	"testing"

	"foliot/api"
	"foliot/cause"
	"foliot/flat"
	"foliot/parse"
	"foliot/plan"
	"foliot/sample"
)

func TestExamples(t *testing.T) {
	// 14.1: what is needed at a place lies apart from what is told there; what is needed no more, does not.
	planned(t, "a and b", flatOf([]int{1}, eq(0, "in"), eq(1, "neg", 0)), []int{0, 1}, []int{0, 1}, 2)
	planned(t, "c", flatOf([]int{2}, eq(0, "in"), eq(1, "neg", 0), eq(2, "neg", 1)), []int{0, 1, 2}, []int{0, 1, 0}, 2)
	planned(t, "a is needed behind c", flatOf([]int{3}, eq(0, "in"), eq(1, "neg", 0), eq(2, "neg", 1), eq(3, "+", 0, 2)), []int{0, 1, 2, 3}, []int{0, 1, 2, 1}, 3)
	planned(t, "a is an output", flatOf([]int{2, 0}, eq(0, "in"), eq(1, "neg", 0), eq(2, "neg", 1)), []int{0, 1, 2}, []int{0, 1, 2}, 3)
}

func TestSlots(t *testing.T) {
	// 14.1: without variables there are none.
	planned(t, "none", api.Flat{}, nil, nil, 0)
	planned(t, "inputs alone", api.Flat{Ins: []string{"u", "v"}}, nil, nil, 0)
	planned(t, "one", flatOf(nil, eq(0, "lit")), []int{0}, []int{0}, 1)
	// What none needs is free again behind its own place.
	planned(t, "none needs", flatOf(nil, eq(0, "lit"), eq(1, "lit"), eq(2, "lit")), []int{0, 1, 2}, []int{0, 0, 0}, 1)
	// The least number that is free, whatever came free first; one at which some lie apart, and others come behind.
	planned(t, "least", flatOf(nil, eq(0, "lit"), eq(1, "lit"), eq(2, "lit"), eq(3, "neg", 2), eq(4, "neg", 0), eq(5, "lit"), eq(6, "gand", 3, 5), eq(7, "sel", 1, 4, 6)),
		[]int{0, 1, 2, 3, 4, 5, 6, 7}, []int{0, 1, 2, 3, 2, 0, 4, 0}, 5)
	// Slots are told by variable, lives by places.
	planned(t, "places", flatOf([]int{1}, eq(3, "lit"), eq(2, "neg", 3), eq(0, "neg", 2), eq(1, "neg", 0)), []int{3, 2, 0, 1}, []int{0, 1, 1, 0}, 2)
	planned(t, "the last place of the greatest variable", flatOf(nil, eq(2, "lit"), eq(3, "neg", 2), eq(0, "+", 2, 3), eq(1, "neg", 0)), []int{2, 3, 0, 1}, []int{2, 0, 0, 1}, 3)
	// One is needed more than once by the same equation, and by a guard.
	q := eq(2, "lit")
	q.Guard = 0
	planned(t, "a guard", flatOf(nil, eq(0, "lit"), eq(1, "lit"), q, eq(3, "lit")), []int{0, 1, 2, 3}, []int{0, 1, 1, 0}, 2)
	planned(t, "twice", flatOf(nil, eq(0, "lit"), eq(1, "gand", 0, 0, 0), eq(2, "lit")), []int{0, 1, 2}, []int{0, 1, 0}, 2)
}

// lits is a flat program of four variables that none needs.
func lits() api.Flat {
	return flatOf(nil, eq(0, "lit"), eq(1, "lit"), eq(2, "lit"), eq(3, "lit"))
}

func TestBehindAll(t *testing.T) {
	// 14.1: what is asked for behind all equations keeps its slot: variable 1, and beside it variable 0, which is the Next of memories, the Var of states.
	first := api.COp{Op: "var", Args: []int{0}}
	for what, change := range map[string]func(f *api.Flat){
		"an output":        func(f *api.Flat) { f.Outs = []int{0, 1} },
		"an Again":         func(f *api.Flat) { f.Again = []int{0, 1} },
		"a Next":           func(f *api.Flat) { f.Mems = []api.Mem{{Guard: -1}, {Next: 1, Guard: -1}} },
		"a memory's Guard": func(f *api.Flat) { f.Mems = []api.Mem{{Guard: 1}, {Guard: -1}} },
		"a memory's Reset": func(f *api.Flat) { f.Mems = []api.Mem{{Guard: -1, Resets: []int{0, 1}}} },
		"a Var":            func(f *api.Flat) { f.Conts = []api.Cont{{Guard: -1}, {Var: 1, Guard: -1}} },
		"a state's Guard":  func(f *api.Flat) { f.Conts = []api.Cont{{Guard: -1}, {Guard: 1}} },
		"a state's Reset":  func(f *api.Flat) { f.Conts = []api.Cont{{Guard: -1, Resets: []int{1}}} },
		"a Slope's Guard": func(f *api.Flat) {
			f.Conts = []api.Cont{{Guard: -1, Slopes: []api.Slope{{Guard: -1}, {Guard: 1}}}}
		},
		"a Slope's Var": func(f *api.Flat) {
			f.Conts = []api.Cont{{Guard: -1, Slopes: []api.Slope{{Guard: 0, Var: 1}}}}
		},
		"a crossing's Guard": func(f *api.Flat) {
			f.Cross = []api.Cross{{Guard: 0, Ops: []api.COp{first}}, {Guard: 1, Ops: []api.COp{first}}}
		},
		"a var": func(f *api.Flat) {
			f.Cross = []api.Cross{{Guard: -1, Ops: []api.COp{first, {Op: "var", Args: []int{1}}, {Op: "neg", Args: []int{0}}}}}
		},
		"a sel": func(f *api.Flat) {
			f.Cross = []api.Cross{{Guard: -1, Ops: []api.COp{first, {Op: "sel", Args: []int{1, 0, 0}}}}}
		},
	} {
		f := lits()
		change(&f)
		planned(t, what, f, []int{0, 1, 2, 3}, []int{0, 1, 2, 2}, 3)
	}
}

func TestNotBehindAll(t *testing.T) {
	// 14.1: a Guard below 0 is none; numbers of states, of operations, of inputs are no variables.
	f := lits()
	f.Mems = []api.Mem{{Guard: math.MinInt}, {Guard: -1}}
	f.Conts = []api.Cont{{Guard: -2, Slopes: []api.Slope{{Guard: -1}, {Guard: math.MinInt}}}, {Guard: -1}, {Guard: -1}}
	f.Cross = []api.Cross{{Guard: -7, Ops: []api.COp{
		{Op: "var", Args: []int{0}}, {Op: "cont", Args: []int{2}}, {Op: "neg", Args: []int{1}}, {Op: "+", Args: []int{1, 2}}, {Op: "-", Args: []int{2, 1}},
		{Op: "/", Args: []int{1, 2}}, {Op: "*", Args: []int{1, 2, 1}}, {Op: "sel", Args: []int{0, 1, 2}},
	}}}
	f.Eqs[1].K, f.Eqs[2].K, f.Eqs[2].Guard = 2, 1, math.MinInt
	planned(t, "variable 0 alone", f, []int{0, 1, 2, 3}, []int{0, 1, 1, 1}, 2)
}

func TestErrors(t *testing.T) {
	// 14.1: ErrArg of what is not good, also where it has a circle; ErrCause where there is no order.
	refused := func(what string, want api.Errno, f api.Flat) {
		t.Helper()
		p, err := plan.Of(f)
		if err != want || len(p.Order) != 0 || len(p.Slot) != 0 || p.Slots != 0 {
			t.Error(what, p, err)
		}
	}
	refused("itself", api.ErrCause, flatOf([]int{0}, eq(0, "neg", 0)))
	refused("two", api.ErrCause, flatOf([]int{0}, eq(0, "neg", 1), eq(1, "neg", 0), eq(2, "lit")))
	refused("a circle that is not good", api.ErrArg, flatOf([]int{9}, eq(0, "neg", 0)))
	refused("no output", api.ErrArg, flatOf([]int{-1}, eq(0, "lit")))
	refused("no equation", api.ErrArg, api.Flat{Names: []string{"x"}})
	refused("no such op", api.ErrArg, flatOf(nil, eq(0, "up")))
	refused("no Args", api.ErrArg, flatOf(nil, eq(0, "+")))
	refused("no memory", api.ErrArg, flatOf(nil, eq(0, "mem")))
	f := flatOf(nil, eq(0, "mem"), eq(1, "neg", 0))
	f.Mems = []api.Mem{{Guard: -1, Resets: []int{1}}}
	refused("a reset", api.ErrCause, f)
	f.Mems[0].Resets[0] = 2
	refused("no reset", api.ErrArg, f)
}

func TestSources(t *testing.T) {
	// 14.1: of a source's flat program.
	p, _, _ := parse.Parse([]byte("hybrid main(v: rat) returns (x: rat init 0, n: int) let der x = v init 0 reset 0 when up(x - 1); n = 0 -> pre n + 1; tel"))
	f, err, _ := flat.Of(p)
	if err != api.OK {
		t.Fatal(err)
	}
	order, _ := cause.Order(f)
	slot, slots := planOf(f, order)
	planned(t, "a source", f, order, slot, slots)
	if slots >= len(f.Names) || slots < 2 {
		t.Error(slots, len(f.Names))
	}
}

// holds holds a plan against the words.
func holds(t *testing.T, f api.Flat) bool {
	t.Helper()
	order, want := cause.Order(f)
	p, err := plan.Of(f)
	if err != want {
		t.Fatal(f, err, want)
	}
	if err != api.OK {
		return false
	}
	slot, slots := planOf(f, order)
	planned(t, "random", f, order, slot, slots)
	if !isRight(f, p) || !keeps(f, p) || p.Slots != mostAlive(f, order) {
		t.Fatal(f, p)
	}
	return true
}

func TestRandomFlats(t *testing.T) {
	// 14.1, 14.3: the plan of the words; it is right, and what is asked for is still there; so many slots as live at one time.
	count := map[bool]int{}
	for seed := range int64(3000) {
		r := dice(seed)
		count[holds(t, sample.Flat(r.Intn, r.Intn(25), seed%3 == 0))]++
	}
	if count[true] < 1000 || count[false] < 200 {
		t.Error(count)
	}
}

func TestRandomPrograms(t *testing.T) {
	// 14.1, 14.3, of sources' flat programs.
	count := map[bool]int{}
	for seed := range int64(150) {
		makes := sample.Causal
		if seed%4 == 0 {
			makes = sample.Begun
		}
		f, err, _ := flat.Of(makes(dice(seed).Intn, 25))
		if err != api.OK {
			t.Fatal(err)
		}
		count[holds(t, f)]++
	}
	if count[true] < 100 || count[false] < 5 {
		t.Error(count)
	}
}
