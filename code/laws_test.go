package code_test

import (
	"math"
	"reflect"
	"slices"
	"strings"
	"testing"

	"foliot/api"
	"foliot/cause"
	"foliot/code"
	"foliot/flat"
	"foliot/meaning"
	"foliot/plan"
	"foliot/sample"
)

// anyPlan makes one that is right for a flat program: layer 14's; or any order, with slots of their own, and some left over.
func anyPlan(t *testing.T, r func(int) int, f api.Flat) api.Plan {
	p, err := plan.Of(f)
	if err != api.OK {
		t.Fatal(f, err)
	}
	if r(2) == 0 {
		n := len(f.Names)
		p.Order, p.Slots = sample.Order(r, cause.Needs(f)), n+r(3)
		p.Slot = sample.Order(r, make([][]int, p.Slots))[:n]
	}
	return p
}

// owns asks that bodies are of those instructions alone that chapters 15.1 and 15.2 tell, and of so many.
func owns(t *testing.T, f api.Flat, c api.Code) {
	t.Helper()
	ends := len(f.Mems) + len(f.Conts) + len(f.Outs) + len(f.Again)
	if len(c.Step) != len(f.Names)+ends || len(c.Deriv) != len(f.Conts) || len(c.Cross) != c.Lines+len(f.Cross) {
		t.Fatal(f, c)
	}
	const (
		step  = " lit in mem cont flag copy neg not floor rat gand mrg + - * / div mod < <= > >= == != and or sel keep state out again "
		deriv = " slope "
		cross = " lvar lcont lneg l+ l- l* l/ lsel ask "
	)
	for i, body := range [][]api.Ins{c.Step, c.Deriv, c.Cross} {
		for _, x := range body {
			if !strings.Contains([]string{step, deriv, cross}[i], " "+x.Op+" ") {
				t.Fatal(i, x)
			}
		}
	}
}

func TestRandomFlats(t *testing.T) {
	// 15.1, 15.2: the code of the words, and of all kinds of instructions, by any plans.
	count := map[string]int{}
	for seed := range int64(3000) {
		r := dice(seed).Intn
		f := sample.Flat(r, r(25), false)
		p := anyPlan(t, r, f)
		c := coded(t, f, p)
		if !same(c, wordsOf(f, p)) {
			t.Fatal(f, p, c)
		}
		owns(t, f, c)
		for _, x := range slices.Concat(c.Step, c.Deriv, c.Cross) {
			count[x.Op]++
		}
	}
	if len(count) != 41 {
		t.Error(len(count), count)
	}
	for op, n := range count {
		if n < 100 {
			t.Error(op, n)
		}
	}
}

// counted is how often runs ended how, and how many instants they had.
type counted struct {
	ends     [5]int
	instants int
}

// agrees asks that object code does what it ought to by a script.
func (n *counted) agrees(t *testing.T, c api.Code, ins []string, s api.Script, want api.Trace, ok bool) {
	t.Helper()
	if got := meaning.Code(c, ins, s, 20); !ok || !reflect.DeepEqual(got, want) {
		t.Fatal(c, s, got, want, ok)
	}
	n.ends[want.End]++
	n.instants += len(want.Entries)
}

func TestRandomRuns(t *testing.T) {
	// P6: object code does what its flat program does, by any plan and any right script.
	n := &counted{}
	for seed := range int64(3000) {
		r := dice(seed).Intn
		f := sample.Flat(r, r(40), false)
		c := coded(t, f, anyPlan(t, r, f))
		s := sample.Script(r, f.Ins)
		want, ok := meaning.Flat(f, s, 20)
		n.agrees(t, c, f.Ins, s, want, ok)
	}
	if n.ends[api.EndDone] < 500 || n.ends[api.EndDiv] < 50 || n.ends[api.EndBig] < 30 || n.ends[api.EndCascade] < 30 || n.instants < 5000 {
		t.Error(n)
	}
}

func TestRandomPrograms(t *testing.T) {
	// P6, of sources: object code does what the program means.
	n := &counted{}
	for seed := range int64(600) {
		r := dice(seed).Intn
		p := sample.Causal(r, 60)
		f, err, _ := flat.Of(p)
		if err != api.OK {
			t.Fatal(err)
		}
		pl, _ := plan.Of(f)
		c := coded(t, f, pl)
		owns(t, f, c)
		s := sample.Script(r, f.Ins)
		want, ok := meaning.Source(p, s, 20)
		n.agrees(t, c, f.Ins, s, want, ok)
	}
	if n.ends[api.EndDone] < 100 || n.instants < 1000 {
		t.Error(n)
	}
}

func TestWhateverIsGiven(t *testing.T) {
	// R1, R2: the call ends at all flat programs and plans; it is of one mind with layer 14.
	r := dice(1)
	odd := func() int { return []int{math.MinInt, -1, 0, 0, 0, 1, 1, 2, math.MaxInt}[r.Intn(9)] }
	count := map[api.Errno]int{}
	for range 50000 {
		f := sample.Odd(r.Intn)
		p, _ := plan.Of(f)
		if r.Intn(2) == 0 {
			p = api.Plan{Order: []int{odd(), odd()}[:r.Intn(3)], Slot: []int{odd(), odd()}[:r.Intn(3)], Slots: odd()}
		}
		c, err := code.Of(f, p)
		want, wantErr := api.Code{}, api.ErrArg
		if plan.Right(f, p) {
			want, wantErr = wordsOf(f, p), api.OK
		}
		if err != wantErr || !same(c, want) {
			t.Fatal(f, p, c, err)
		}
		count[err]++
	}
	if count[api.OK] < 1000 || count[api.ErrArg] < 10000 {
		t.Error(count)
	}
}

func TestGreatFlats(t *testing.T) {
	// R1: great flat programs have their code, too.
	const n = 50000
	f := flatOf(eq(0, "lit"))
	f.Names = make([]string, n)
	for v := 1; v < n; v++ {
		f.Eqs = append(f.Eqs, eq(v, "neg", v-1))
	}
	slices.Reverse(f.Eqs)
	long := api.Cross{Guard: -1, Ops: []api.COp{{Op: "var", Args: []int{0}}}}
	for i := 1; i < n; i++ {
		long.Ops = append(long.Ops, api.COp{Op: "+", Args: []int{i - 1, i / 2}})
		f.Cross = append(f.Cross, api.Cross{Guard: i, Ops: long.Ops[:1]})
		f.Mems = append(f.Mems, api.Mem{Next: i, Guard: i, Resets: []int{i}})
		f.Conts = append(f.Conts, api.Cont{Var: i, Guard: i, Resets: []int{i}, Slopes: []api.Slope{{Guard: i, Var: i}}})
		f.Outs, f.Again = append(f.Outs, i), append(f.Again, i)
	}
	f.Cross = append(f.Cross, long)
	p, err := plan.Of(f)
	c, wrong := code.Of(f, p)
	if err != api.OK || wrong != api.OK || c.Lines != 2*n-1 || c.Slots != n {
		t.Fatal(err, wrong, c.Lines, c.Slots)
	}
	owns(t, f, c)
	if textOf(c.Cross[len(c.Cross)-2:]) != "l+ >99998 <99997,74998; ask <99998 k49999" || textOf(c.Step[n-1:n]) != "neg >49999 <49998" {
		t.Error(textOf(c.Cross[len(c.Cross)-2:]), textOf(c.Step[n-1:n]))
	}
}

// list is one of an answer's: what it tells, and what writes into it, to the end of its memory.
type list struct {
	tells func() any
	spoil func()
}

// listOf is a list, of each item of which it tells a part.
func listOf[T, U any](l []T, bad T, part func(T) U) list {
	return list{func() any {
		var out []U
		for _, x := range l {
			out = append(out, part(x))
		}
		return out
	}, func() {
		for i := range l[:cap(l)] {
			l[:cap(l)][i] = bad
		}
	}}
}

// listsOf are all lists of object code.
func listsOf(c api.Code) []list {
	var out []list
	number := func(v api.Value) {
		limb := func(x uint32) uint32 { return x }
		out = append(out, listOf(v.Num.Num.Mag, 99, limb), listOf(v.Num.Den, 99, limb))
	}
	for _, l := range [][]api.Value{c.Mems, c.Conts} {
		out = append(out, listOf(l, api.Value{Kind: 9}, func(v api.Value) int { return v.Kind }))
		for _, v := range l {
			number(v)
		}
	}
	for _, l := range [][]api.Ins{c.Step, c.Deriv, c.Cross} {
		out = append(out, listOf(l, api.Ins{Op: "bad"}, func(x api.Ins) string { return x.Op }))
		for _, x := range l {
			place := func(i int) int { return i }
			out = append(out, listOf(x.Args, -9, place), listOf(x.Resets, -9, place))
			number(x.Lit)
		}
	}
	return out
}

// numbered gives a flat program's values numbers of their own, with more behind their ends.
func numbered(f *api.Flat) {
	n := uint32(1)
	limbs := func() []uint32 {
		n++
		return []uint32{n, n, 7, 8, 9}[:2]
	}
	value := func() api.Value {
		return api.Value{Kind: api.VNum, Num: api.Rat{Num: api.Int{Mag: limbs()}, Den: limbs()}}
	}
	for i := range f.Eqs {
		f.Eqs[i].Lit = value()
	}
	for i := range f.Mems {
		f.Mems[i].Init = value()
	}
	for i := range f.Conts {
		f.Conts[i].Init = value()
	}
}

// isNumbered tells whether what is behind those numbers' ends is as it was.
func isNumbered(f api.Flat) bool {
	values := []api.Value{}
	for _, q := range f.Eqs {
		values = append(values, q.Lit)
	}
	for _, m := range f.Mems {
		values = append(values, m.Init)
	}
	for _, c := range f.Conts {
		values = append(values, c.Init)
	}
	return !slices.ContainsFunc(values, func(v api.Value) bool {
		return !slices.Equal(v.Num.Num.Mag[2:5], []uint32{7, 8, 9}) || !slices.Equal(v.Num.Den[2:5], []uint32{7, 8, 9})
	})
}

func TestNothingIsChanged(t *testing.T) {
	// R4, R5: what is handed in is as it was, to behind its lists' ends, whatever is done to what was told; no two lists that were told share memory.
	for seed := range int64(150) {
		made := func() (api.Flat, api.Plan) {
			r := dice(seed).Intn
			f := sample.Flat(r, 8, false)
			sample.Lengthen(&f)
			numbered(&f)
			p := anyPlan(t, r, f)
			p.Order, p.Slot = append(slices.Clone(p.Order), 70)[:8], append(slices.Clone(p.Slot), 80)[:8]
			return f, p
		}
		f, p := made()
		g, q := made()
		c, d, want := coded(t, f, p), coded(t, f, p), coded(t, g, q)
		lists := listsOf(c)
		for i, l := range lists {
			var before []any
			for _, other := range lists {
				before = append(before, other.tells())
			}
			l.spoil()
			for k, other := range lists {
				if k != i && !reflect.DeepEqual(other.tells(), before[k]) {
					t.Fatal(f, c, i, k)
				}
			}
		}
		if !same(d, want) || !same(coded(t, f, p), want) {
			t.Fatal(f, p, d)
		}
		if !reflect.DeepEqual(f, g) || !reflect.DeepEqual(p, q) || !sample.Lengthened(f) || !isNumbered(f) || p.Order[:9][8] != 70 || p.Slot[:9][8] != 80 {
			t.Fatal(f, p)
		}
	}
}
