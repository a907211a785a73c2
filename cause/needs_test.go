package cause_test

import (
	"math"
	"reflect"
	"slices"
	"strings"
	"testing"

	"foliot/api"
	"foliot/cause"
	"foliot/flat"
	"foliot/graph"
	"foliot/sample"
)

// mixed is a good flat program whose equations stand in another order than its variables.
func mixed() api.Flat {
	return api.Flat{
		Ins:   []string{"u", "v"},
		Names: make([]string, 9),
		Outs:  []int{8},
		Eqs: []api.FEq{
			{Var: 8, Op: "mrg", Args: []int{7, 2, 7, 0, 2}, Guard: 7},
			{Var: 2, Op: "in", K: 1, Guard: -1},
			{Var: 0, Op: "lit", K: 1, Guard: math.MinInt},
			{Var: 7, Op: "gand", Args: []int{6, 5, 0}, Guard: -2},
			{Var: 1, Op: "mem", K: 1, Guard: 0},
			{Var: 5, Op: "cont", K: 0, Guard: 6},
			{Var: 3, Op: "flag", K: 0, Guard: 2},
			{Var: 4, Op: "mem", K: 0, Guard: -1},
			{Var: 6, Op: "sel", Args: []int{3, 1, 1}, Guard: 1},
		},
		Mems:  []api.Mem{{Next: 8, Guard: 7}, {Next: 5, Guard: 6, Resets: []int{4, 2, 0, 4}}},
		Conts: []api.Cont{{Var: 8, Guard: 7, Resets: []int{3, 1, 6}, Slopes: []api.Slope{{Guard: 8, Var: 7}}}, {Var: 1, Guard: -1, Resets: []int{8}}},
		Cross: []api.Cross{{Guard: 8, Ops: []api.COp{{Op: "var", Args: []int{8}}}}},
		Again: []int{8},
	}
}

func TestNeeds(t *testing.T) {
	// 13.1: by the variables' places: Args, a guard that is one, the Resets of that memory, that state; rising, each once.
	f := mixed()
	want := [][]int{{}, {0, 2, 4}, {}, {2}, {}, {1, 3, 6}, {1, 3}, {0, 5, 6}, {0, 2, 7}}
	same(t, cause.Needs(f), want)
	if l, err := cause.Order(f); err != api.OK || !slices.Equal(l, []int{0, 2, 3, 4, 1, 6, 5, 7, 8}) {
		t.Error(l, err)
	}
	if l := cause.Cycle(f); len(l) != 0 {
		t.Error(l)
	}
	// A variable may need itself, and such as need it.
	f.Eqs[3].Guard = 7
	want[7] = []int{0, 5, 6, 7}
	same(t, cause.Needs(f), want)
	cycles(t, f, 7)
	f.Eqs[3].Guard, f.Mems[0].Resets = -1, []int{8, 8}
	want[7], want[4] = []int{0, 5, 6}, []int{8}
	same(t, cause.Needs(f), want)
	cycles(t, f, 1, 4, 8, 7, 5)
}

func same(t *testing.T, got, want [][]int) {
	t.Helper()
	if !slices.EqualFunc(got, want, slices.Equal[[]int]) {
		t.Errorf("got %v, want %v", got, want)
	}
}

// cycles asks for a flat program's cycle; so it has no order.
func cycles(t *testing.T, f api.Flat, want ...int) {
	t.Helper()
	if l := cause.Cycle(f); !slices.Equal(l, want) {
		t.Errorf("got %v, want %v", l, want)
	}
	if l, err := cause.Order(f); err != api.ErrCause || len(l) != 0 {
		t.Error(l, err)
	}
}

func TestOrder(t *testing.T) {
	// 13.1: the least one of those that might stand next; of an empty flat program an empty row.
	f := api.Flat{Names: make([]string, 4)}
	for v, args := range [][]int{{3}, {}, {}, {2}} {
		f.Eqs = append(f.Eqs, api.FEq{Var: v, Op: "mrg", Args: append(args, 1), Guard: -1})
	}
	f.Eqs[1] = api.FEq{Var: 1, Op: "lit", Guard: -1}
	if l, err := cause.Order(f); err != api.OK || !slices.Equal(l, []int{1, 2, 3, 0}) {
		t.Error(l, err)
	}
	if l, err := cause.Order(api.Flat{}); err != api.OK || len(l) != 0 || len(cause.Needs(api.Flat{})) != 0 || len(cause.Cycle(api.Flat{})) != 0 {
		t.Error(l, err)
	}
}

func TestNotGood(t *testing.T) {
	// 13.1: what is not good: ErrArg, and nothing; also where it has a cycle.
	for what, spoil := range map[string]func(f *api.Flat){
		"an equation less": func(f *api.Flat) { f.Eqs = f.Eqs[1:] },
		"told twice":       func(f *api.Flat) { f.Eqs[0].Var = 2 },
		"no variable":      func(f *api.Flat) { f.Eqs[0].Args[1] = 9 },
		"no op":            func(f *api.Flat) { f.Eqs[3].Op = "nand" },
		"no memory":        func(f *api.Flat) { f.Eqs[4].K = 2 },
		"no state":         func(f *api.Flat) { f.Eqs[5].K = -1 },
		"no reset":         func(f *api.Flat) { f.Mems[1].Resets[0] = -1 },
		"no guard":         func(f *api.Flat) { f.Eqs[0].Guard = 9 },
		"no output":        func(f *api.Flat) { f.Outs[0] = 99 },
		"no next":          func(f *api.Flat) { f.Mems[0].Next = -1 },
		"no slope":         func(f *api.Flat) { f.Conts[0].Slopes[0].Var = 9 },
		"no operation":     func(f *api.Flat) { f.Cross[0].Ops = nil },
		"none asks":        func(f *api.Flat) { f.Again[0] = -1 },
	} {
		for _, round := range []bool{false, true} {
			f := mixed()
			if round {
				f.Eqs[3].Guard = 7
			}
			spoil(&f)
			refused(t, what, f)
		}
	}
	refused(t, "no equation", api.Flat{Names: []string{"a"}})
	refused(t, "no variable", api.Flat{Outs: []int{0}})
}

func refused(t *testing.T, what string, f api.Flat) {
	t.Helper()
	l, err := cause.Order(f)
	if err != api.ErrArg || len(l) != 0 || len(cause.Needs(f)) != 0 || len(cause.Cycle(f)) != 0 {
		t.Error(what, l, err, cause.Needs(f), cause.Cycle(f))
	}
}

// isNeeded tells whether an equation needs a variable, by the words of the chapter.
func isNeeded(f api.Flat, q api.FEq, v int) bool {
	return slices.Contains(q.Args, v) || q.Guard == v ||
		q.Op == "mem" && slices.Contains(f.Mems[q.K].Resets, v) ||
		q.Op == "cont" && slices.Contains(f.Conts[q.K].Resets, v)
}

func TestRandomFlats(t *testing.T) {
	// 13.1, asked variable by variable.
	count := map[bool]int{}
	for seed := range int64(3000) {
		r := dice(seed)
		f := sample.Flat(r.Intn, 1+r.Intn(14), seed%2 == 0)
		if !flat.Good(f) {
			t.Fatal(f)
		}
		want := make([][]int, len(f.Names))
		for _, q := range f.Eqs {
			for v := range f.Names {
				if isNeeded(f, q, v) {
					want[q.Var] = append(want[q.Var], v)
				}
			}
		}
		same(t, cause.Needs(f), want)
		l, ok := graph.Order(want)
		count[ok]++
		got, err := cause.Order(f)
		if (err == api.OK) != ok || !ok && err != api.ErrCause || !slices.Equal(got, l) {
			t.Fatal(f, got, err)
		}
		if got := cause.Cycle(f); !slices.Equal(got, graph.Cycle(want)) {
			t.Fatal(f, got)
		}
	}
	if count[true] < 300 || count[false] < 300 {
		t.Error(count)
	}
}

func TestNewMemory(t *testing.T) {
	// R4: what is handed in is not changed, not even behind its lists' ends; no two lists of an answer share memory.
	make := func() api.Flat {
		f := mixed()
		f.Eqs[0].Args = append(f.Eqs[0].Args, 70, 80, 90)[:5]
		f.Mems[1].Resets = append(f.Mems[1].Resets, 70, 80, 90)[:4]
		f.Conts[0].Resets = append(f.Conts[0].Resets, 70, 80, 90)[:3]
		return f
	}
	f := make()
	out := cause.Needs(f)
	for i, l := range out {
		for k := range l[:cap(l)] {
			l[:cap(l)][k] = -i
		}
	}
	for i, l := range out {
		for _, v := range l[:cap(l)] {
			if v != -i {
				t.Fatal(i, l[:cap(l)])
			}
		}
	}
	order, _ := cause.Order(f)
	clear(order[:cap(order)])
	for _, g := range []api.Flat{f, make()} {
		if !reflect.DeepEqual(g, make()) || behind(g) != "70 80 90, 70 80 90, 70 80 90" {
			t.Error(g, behind(g))
		}
		same(t, cause.Needs(g), cause.Needs(mixed()))
	}
}

// behind tells what lies behind the ends of some lists.
func behind(f api.Flat) string {
	var out []string
	for _, l := range [][]int{f.Eqs[0].Args, f.Mems[1].Resets, f.Conts[0].Resets} {
		var texts []string
		for _, v := range l[len(l) : len(l)+3] {
			texts = append(texts, map[int]string{70: "70", 80: "80", 90: "90"}[v])
		}
		out = append(out, strings.Join(texts, " "))
	}
	return strings.Join(out, ", ")
}

func TestWhateverIsGiven(t *testing.T) {
	// R1: calls end at all flat programs, and are of one mind, whatever stands in them.
	r := dice(1)
	good := 0
	for range 40000 {
		f := sample.Odd(r.Intn)
		_, err := cause.Order(f)
		if (err != api.ErrArg) != flat.Good(f) || (err == api.ErrCause) != (len(cause.Cycle(f)) > 0) || (len(cause.Needs(f)) > 0) != (err != api.ErrArg && len(f.Names) > 0) {
			t.Fatal(f, err)
		}
		if err != api.ErrArg && len(f.Names) > 0 {
			good++
		}
	}
	if good < 200 {
		t.Error(good)
	}
}
