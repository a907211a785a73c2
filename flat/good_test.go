package flat_test

import (
	"strings"
	"testing"

	"foliot/api"
	"foliot/flat"
)

// all makes a good flat program in which there is of everything.
func all() api.Flat {
	f := api.Flat{Ins: []string{"u", "v"}, Outs: []int{2, 2}, Again: []int{1, 5}}
	for _, q := range []api.FEq{
		{Op: "lit"}, {Op: "in", K: 1}, {Op: "mem", K: 2}, {Op: "cont", K: 1}, {Op: "flag"},
		{Op: "copy", Args: []int{5}}, {Op: "neg", Args: []int{24}}, {Op: "not", Args: []int{0}}, {Op: "floor", Args: []int{0}}, {Op: "rat", Args: []int{0}},
		{Op: "gand", Args: []int{1}}, {Op: "mrg", Args: []int{1, 2, 3, 4}}, {Op: "sel", Args: []int{1, 2, 3}},
	} {
		put(&f, q)
	}
	for _, op := range strings.Fields("+ - * / div mod < <= > >= == != and or") {
		put(&f, api.FEq{Op: op, Args: []int{1, 2}})
	}
	f.Eqs[3].Guard, f.Eqs[4].Guard = 0, len(f.Names)-1
	f.Mems = []api.Mem{{Guard: -1}, {Next: 4, Guard: 3, Resets: []int{5, 6}}, {Next: len(f.Names) - 1, Guard: -9}}
	f.Conts = []api.Cont{{Guard: -1}, {Var: 3, Guard: 2, Resets: []int{1}, Slopes: []api.Slope{{Guard: -1, Var: 2}, {Guard: 4, Var: 5}}}}
	f.Cross = []api.Cross{{Guard: 1, Ops: []api.COp{
		{Op: "var", Args: []int{26}}, {Op: "cont", Args: []int{1}}, {Op: "neg", Args: []int{1}}, {Op: "+", Args: []int{0, 2}}, {Op: "-", Args: []int{3, 3}},
		{Op: "/", Args: []int{1, 0}}, {Op: "*", Args: []int{5, 0, 1}}, {Op: "*", Args: []int{0, 5, 0}}, {Op: "sel", Args: []int{26, 6, 7}},
	}}}
	return f
}

func put(f *api.Flat, q api.FEq) {
	q.Var, q.Guard = len(f.Names), -1
	f.Names = append(f.Names, "")
	f.Eqs = append(f.Eqs, q)
}

// spoiled asks that a change makes the program that has everything one that is not good, or, where it may be so, leaves it good.
func spoiled(t *testing.T, good bool, what string, change func(f *api.Flat)) {
	t.Helper()
	f := all()
	change(&f)
	if flat.Good(f) != good {
		t.Error(what, !good)
	}
}

func TestGood(t *testing.T) {
	// 12.4: what is good.
	spoiled(t, true, "all", func(f *api.Flat) {})
	if !flat.Good(api.Flat{}) || !flat.Good(api.Flat{Ins: []string{"x", "x"}, Mems: nil}) {
		t.Error("nothing at all")
	}
	// Each variable is that of one equation, in whatever order those stand.
	spoiled(t, true, "order", func(f *api.Flat) { f.Eqs[0], f.Eqs[9] = f.Eqs[9], f.Eqs[0] })
	spoiled(t, false, "twice", func(f *api.Flat) { f.Eqs[0].Var = 1 })
	spoiled(t, false, "none's", func(f *api.Flat) { f.Eqs[0].Var = -1 })
	spoiled(t, false, "none's", func(f *api.Flat) { f.Eqs[0].Var = len(f.Names) })
	spoiled(t, false, "one less", func(f *api.Flat) { f.Eqs = f.Eqs[:len(f.Eqs)-1] })
	spoiled(t, false, "one more", func(f *api.Flat) { f.Eqs = append(f.Eqs, f.Eqs[0]) })
	spoiled(t, false, "a name more", func(f *api.Flat) { f.Names = append(f.Names, "x") })
	spoiled(t, false, "no name", func(f *api.Flat) { f.Names = nil })
}

func TestGoodPlaces(t *testing.T) {
	// 12.4: all places that are told are places.
	n := len(all().Names)
	places := map[string]func(f *api.Flat) *int{
		"an Arg":            func(f *api.Flat) *int { return &f.Eqs[11].Args[3] },
		"an output":         func(f *api.Flat) *int { return &f.Outs[1] },
		"an Again":          func(f *api.Flat) *int { return &f.Again[1] },
		"a memory's Next":   func(f *api.Flat) *int { return &f.Mems[2].Next },
		"a memory's Reset":  func(f *api.Flat) *int { return &f.Mems[1].Resets[1] },
		"a state's Var":     func(f *api.Flat) *int { return &f.Conts[1].Var },
		"a state's Reset":   func(f *api.Flat) *int { return &f.Conts[1].Resets[0] },
		"a slope's Var":     func(f *api.Flat) *int { return &f.Conts[1].Slopes[1].Var },
		"a var":             func(f *api.Flat) *int { return &f.Cross[0].Ops[0].Args[0] },
		"a sel's condition": func(f *api.Flat) *int { return &f.Cross[0].Ops[8].Args[0] },
	}
	guards := map[string]func(f *api.Flat) *int{
		"an equation's Guard": func(f *api.Flat) *int { return &f.Eqs[12].Guard },
		"a memory's Guard":    func(f *api.Flat) *int { return &f.Mems[0].Guard },
		"a state's Guard":     func(f *api.Flat) *int { return &f.Conts[0].Guard },
		"a slope's Guard":     func(f *api.Flat) *int { return &f.Conts[1].Slopes[0].Guard },
		"a crossing's Guard":  func(f *api.Flat) *int { return &f.Cross[0].Guard },
	}
	for what, at := range places {
		for v, good := range map[int]bool{-1 << 63: false, -1: false, 0: true, n - 1: true, n: false, 1<<63 - 1: false} {
			spoiled(t, good, what, func(f *api.Flat) { *at(f) = v })
		}
	}
	for what, at := range guards {
		for v, good := range map[int]bool{-1 << 63: true, -1: true, 0: true, n - 1: true, n: false, 1<<63 - 1: false} {
			spoiled(t, good, what, func(f *api.Flat) { *at(f) = v })
		}
	}
}

func TestGoodOps(t *testing.T) {
	// 12.4: each Op has what it needs, and there are no others.
	counts := map[string]string{"lit": "0", "in": "0", "mem": "0", "cont": "0", "flag": "0", "gand": "1234", "mrg": "1234", "sel": "3"}
	for _, op := range strings.Fields("copy neg not floor rat") {
		counts[op] = "1"
	}
	for _, op := range strings.Fields("+ - * / div mod < <= > >= == != and or") {
		counts[op] = "2"
	}
	for _, op := range []string{"", "Lit", "pre", "fby", "->", "last", "up", "if", "var", "keep", "out", "again", "state", "slope", "l+", " +", "=", "nil", "xor", "call"} {
		counts[op] = ""
	}
	for op, want := range counts {
		for n := range 5 {
			good := strings.Contains(want, string(rune('0'+n)))
			spoiled(t, good, op, func(f *api.Flat) { f.Eqs[25].Op, f.Eqs[25].Args = op, []int{1, 1, 1, 1}[:n] })
		}
	}
	// K is a place of what is read; of other Ops it may be any.
	for op, n := range map[string]int{"in": 2, "mem": 3, "cont": 2, "flag": 1} {
		for k, good := range map[int]bool{-1 << 63: false, -1: false, 0: true, n - 1: true, n: false, 1<<63 - 1: false} {
			spoiled(t, good, op, func(f *api.Flat) { f.Eqs[0].Op, f.Eqs[0].K = op, k })
		}
	}
	for k := range 13 {
		if k < 1 || k > 4 {
			spoiled(t, true, "K", func(f *api.Flat) { f.Eqs[k].K = 99 })
			spoiled(t, true, "K", func(f *api.Flat) { f.Eqs[k].K = -99 })
		}
	}
}

func TestGoodCrossings(t *testing.T) {
	// 12.4: a crossing has an operation at least; each is over variables, states, and operations ahead.
	spoiled(t, false, "none", func(f *api.Flat) { f.Cross[0].Ops = nil })
	spoiled(t, false, "none", func(f *api.Flat) { f.Cross = append(f.Cross, api.Cross{Guard: -1}) })
	counts := map[string]int{"var": 1, "cont": 1, "neg": 1, "+": 2, "-": 2, "/": 2, "*": 3, "sel": 3}
	for _, op := range strings.Fields("lit in mem flag copy not floor rat gand mrg div mod < == and or lvar l+ ask") {
		counts[op] = 9
	}
	for op, want := range counts {
		for n := range 5 {
			spoiled(t, n == want, op, func(f *api.Flat) { f.Cross[0].Ops[3] = api.COp{Op: op, Args: []int{0, 0, 0, 0}[:n]} })
		}
	}
	// Those ahead are below its own place.
	for _, at := range []struct{ op, arg int }{{2, 0}, {3, 0}, {3, 1}, {4, 0}, {4, 1}, {5, 0}, {5, 1}, {6, 0}, {6, 1}, {8, 1}, {8, 2}} {
		for v, good := range map[int]bool{-1: false, 0: true, at.op - 1: true, at.op: false, at.op + 1: false, 1<<63 - 1: false} {
			spoiled(t, good, "ahead", func(f *api.Flat) { f.Cross[0].Ops[at.op].Args[at.arg] = v })
		}
	}
	for v, good := range map[int]bool{-1: false, 0: true, 1: true, 2: false, 1<<63 - 1: false} {
		spoiled(t, good, "cont", func(f *api.Flat) { f.Cross[0].Ops[1].Args[0] = v })
		spoiled(t, good, "the third number", func(f *api.Flat) { f.Cross[0].Ops[6].Args[2] = v })
	}
}
