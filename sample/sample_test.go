package sample_test

import (
	"math/rand"
	"reflect"
	"slices"
	"strconv"
	"strings"
	"testing"

	"foliot/api"
	"foliot/cause"
	"foliot/flat"
	"foliot/inits"
	"foliot/kinds"
	"foliot/lex"
	"foliot/meaning"
	"foliot/ratio"
	"foliot/safe"
	"foliot/sample"
	"foliot/show"
	"foliot/trace"
	"foliot/types"
)

// maker is one of the package's calls.
type maker func(dice func(int) int, size int) api.Program

// seen asks that programs are right, that a check of a layer finds nothing in them, and that there is of everything in them that a source may have.
func seen(t *testing.T, program maker, check func(api.Program) (api.Errno, int)) {
	t.Helper()
	count := map[string]int{}
	for seed := range int64(1000) {
		p := program(rand.New(rand.NewSource(seed)).Intn, 80)
		text, err := show.Show(p)
		if err != api.OK {
			t.Fatal(p, err)
		}
		if err, place := check(p); err != api.OK {
			t.Fatalf("%s\n%v, %d", text, err, place)
		}
		l, _, _ := lex.Tokens(text)
		for _, x := range l {
			count[x.Text]++
		}
	}
	for _, text := range strings.Fields("type t0 t1 S0 S2 node hybrid main f0 returns var let tel if then else pre fby last der init reset when every automaton state until continue present end true false and or not up bool int rat floor div mod ( , -> + - * / < <= > >= == !=") {
		if count[text] < 100 {
			t.Error(text, count[text])
		}
	}
}

func TestPrograms(t *testing.T) {
	// Programs' names and types are right.
	seen(t, sample.Program, types.Check)
}

func TestKinded(t *testing.T) {
	// So are kinds, where that is asked for.
	seen(t, sample.Kinded, kinds.Check)
}

func TestBegun(t *testing.T) {
	// So is what they tell at the first instant, where that is asked for.
	seen(t, sample.Begun, inits.Check)
}

// causal is the check of a program in which nothing hangs on itself.
func causal(p api.Program) (api.Errno, int) {
	err, place := inits.Check(p)
	if err == api.OK && !meaning.Causal(p) {
		err = api.ErrCause
	}
	return err, place
}

func TestCausal(t *testing.T) {
	// Nothing in them hangs on itself, where that is asked for.
	seen(t, sample.Causal, causal)
}

func TestFlat(t *testing.T) {
	// Flat programs are good, have an order unless circles may be, and there is of everything in them.
	count, orders := map[string]int{}, map[bool]int{}
	for seed := range int64(2000) {
		circles := seed%2 == 0
		f := sample.Flat(rand.New(rand.NewSource(seed)).Intn, int(seed%25), circles)
		_, err := cause.Order(f)
		if !flat.Good(f) || len(f.Names) != int(seed%25) || err != api.OK && !circles {
			t.Fatal(f, err)
		}
		orders[err == api.OK]++
		for _, q := range f.Eqs {
			count[q.Op]++
		}
		for _, c := range f.Cross {
			for _, op := range c.Ops {
				count["l"+op.Op]++
			}
		}
		count["out"], count["again"] = count["out"]+len(f.Outs), count["again"]+len(f.Again)
		for _, c := range f.Conts {
			count["slope"] += len(c.Slopes)
			count["reset"] += len(c.Resets)
		}
	}
	for _, op := range strings.Fields("lit in mem cont flag copy neg not floor rat gand mrg + - * / div mod < <= > >= == != and or sel lvar lcont l+ l- l* l/ lneg lsel out again slope reset") {
		if count[op] < 100 {
			t.Error(op, count[op])
		}
	}
	if orders[true] < 300 || orders[false] < 300 {
		t.Error(orders)
	}
}

func TestCode(t *testing.T) {
	// Object code may run, and there is of everything in it, and of such as no flat program comes to.
	count := map[string]int{}
	for seed := range int64(2000) {
		size := int(seed % 25)
		c := sample.Code(rand.New(rand.NewSource(seed)).Intn, size)
		if !safe.Right(c) || max(len(c.Step), len(c.Deriv), len(c.Cross)) > size {
			t.Fatal(c)
		}
		note := func(what string, is bool) {
			if is {
				count[what]++
			}
		}
		for b, l := range [][]api.Ins{c.Step, c.Deriv, c.Cross} {
			written := map[int]int{}
			note("empty body", len(l) == 0)
			for i, x := range l {
				count[x.Op]++
				count["reset"] += len(x.Resets)
				note("guard", x.Guard >= 0)
				note("again Dst", b != 1 && written[x.Dst] > 0)
				note("early end", b == 0 && i < len(l)/2 && x.Op == "keep")
				note("pairs", b == 1 && len(x.Args) > 2)
				written[x.Dst]++
			}
		}
	}
	for _, op := range strings.Fields("lit in mem cont flag copy neg not floor rat gand mrg + - * / div mod < <= > >= == != and or sel keep state out again slope lvar lcont lneg l+ l- l* l/ lsel ask reset guard pairs") {
		if count[op] < 100 {
			t.Error(op, count[op])
		}
	}
	if count["empty body"] < 100 || count["again Dst"] < 100 || count["early end"] < 100 {
		t.Error(count)
	}
}

func TestOdd(t *testing.T) {
	// Flat programs that may be anything are sometimes good, with an order or without one.
	count := map[api.Errno]int{}
	for seed := range int64(10000) {
		f := sample.Odd(rand.New(rand.NewSource(seed)).Intn)
		if _, err := cause.Order(f); len(f.Names) > 0 {
			count[err]++
		}
	}
	if count[api.OK] < 50 || count[api.ErrArg] < 1000 || count[api.ErrCause] < 20 {
		t.Error(count)
	}
}

func TestOrder(t *testing.T) {
	// Orders have each once, behind what it needs; not the least one alone.
	count := map[int]int{}
	needs := [][]int{{1}, {}, {3, 0}, {}}
	for seed := range int64(100) {
		l := sample.Order(rand.New(rand.NewSource(seed)).Intn, needs)
		at := func(v int) int { return slices.Index(l, v) }
		if len(l) != 4 || at(1) < 0 || at(0) < at(1) || at(3) < 0 || at(2) < at(0) || at(2) < at(3) {
			t.Fatal(l)
		}
		count[at(3)]++
	}
	if count[0] < 10 || count[1] < 10 || count[2] < 10 {
		t.Error(count)
	}
}

func TestScripts(t *testing.T) {
	// Scripts are right, and there is of everything in them.
	changes, ends, limits := 0, 0, map[int]int{}
	for seed := range int64(1000) {
		ins := []string{"u", "v"}[:seed%3]
		s := sample.Script(rand.New(rand.NewSource(seed)).Intn, ins)
		now := ratio.Of(0)
		for _, c := range s.Changes {
			if ratio.Cmp(c.At, now) < 0 || ratio.Cmp(c.At, s.Horizon) > 0 || !slices.Contains(ins, c.Input) {
				t.Fatal(s)
			}
			now = c.At
			changes++
			if ratio.Cmp(now, s.Horizon) == 0 {
				ends++
			}
		}
		if ratio.Sign(s.Horizon) < 0 || s.Cascade < 0 || s.Cascade > api.MaxCount || s.Bits < 1 || s.Bits > api.MaxBits {
			t.Fatal(s)
		}
		limits[s.Bits]++
		limits[-s.Cascade]++
	}
	if changes < 1000 || ends < 50 || limits[api.MaxBits] < 50 || limits[1] == 0 || limits[0] < 50 || limits[-7] < 50 {
		t.Error(changes, ends, limits)
	}
}

func TestTraces(t *testing.T) {
	// Traces are right, with as many outputs as are asked for, and there is of everything in them.
	ends, kinds, lengths, falls := map[int]int{}, map[int]int{}, map[int]int{}, 0
	for seed := range int64(1000) {
		outs := int(seed % 4)
		x := sample.Trace(rand.New(rand.NewSource(seed)).Intn, outs)
		if !trace.Right(x) {
			t.Fatal(x)
		}
		ends[x.End]++
		lengths[len(x.Entries)]++
		for i, e := range x.Entries {
			if len(e.Outs) != outs {
				t.Fatal(x)
			}
			for _, v := range e.Outs {
				kinds[v.Kind]++
			}
			if i == 0 {
				continue
			}
			ahead := x.Entries[i-1]
			later := ratio.Cmp(ahead.At, e.At)
			if later > 0 || later == 0 && e.Index != ahead.Index+1 || later < 0 && e.Index != 0 {
				falls++
			}
		}
	}
	if falls > 0 || min(ends[1], ends[2], ends[3], ends[4]) < 100 || min(kinds[0], kinds[1], kinds[2], kinds[3]) < 100 || min(lengths[0], lengths[1], lengths[9]) < 30 {
		t.Error(falls, ends, kinds, lengths)
	}
}

func TestLengthen(t *testing.T) {
	// What is behind the lists' ends is seen there, and nothing else is changed.
	row := func() []int { return make([]int, 1, 9) }
	make := func() api.Flat {
		return api.Flat{Outs: row(), Again: row(), Eqs: []api.FEq{{Args: row()}}, Mems: []api.Mem{{Resets: row()}}, Conts: []api.Cont{{Resets: row()}}, Cross: []api.Cross{{Ops: []api.COp{{Args: row()}}}}}
	}
	f := make()
	rows := func() []*[]int {
		return []*[]int{&f.Outs, &f.Again, &f.Eqs[0].Args, &f.Mems[0].Resets, &f.Conts[0].Resets, &f.Cross[0].Ops[0].Args}
	}
	for i := range rows() {
		f = make()
		sample.Lengthen(&f)
		if !reflect.DeepEqual(f, make()) || !sample.Lengthened(f) {
			t.Fatal(f)
		}
		l := rows()[i]
		(*l)[:4][1+i%3] = 5
		if sample.Lengthened(f) {
			t.Error(i)
		}
	}
}

func TestSameDice(t *testing.T) {
	// Of the same dice come the same programs; of more, larger ones.
	for _, program := range []maker{sample.Program, sample.Kinded, sample.Begun, sample.Causal} {
		small, large := 0, 0
		for seed := range int64(200) {
			throw := func() func(int) int { return rand.New(rand.NewSource(seed)).Intn }
			p := program(throw(), 60)
			if !reflect.DeepEqual(p, program(throw(), 60)) {
				t.Fatal(seed)
			}
			a, _ := show.Show(p)
			b, _ := show.Show(program(throw(), 1000))
			small, large = small+len(a), large+len(b)
			if !reflect.DeepEqual(sample.Flat(throw(), 20, true), sample.Flat(throw(), 20, true)) || !reflect.DeepEqual(sample.Code(throw(), 20), sample.Code(throw(), 20)) || !reflect.DeepEqual(sample.Trace(throw(), 3), sample.Trace(throw(), 3)) {
				t.Fatal(seed)
			}
		}
		if 4*small > 3*large {
			t.Error(small, large)
		}
	}
}

func TestAnyDice(t *testing.T) {
	// Whatever dice say, a program comes to its end, and is right.
	for name, dice := range map[string]func(int) int{
		"least":    func(int) int { return 0 },
		"greatest": func(n int) int { return n - 1 },
		"middle":   func(n int) int { return n / 2 },
	} {
		for _, size := range []int{-5, 0, 1, 30, 3000} {
			for i, check := range []func(api.Program) (api.Errno, int){types.Check, kinds.Check, inits.Check, causal} {
				p := []maker{sample.Program, sample.Kinded, sample.Begun, sample.Causal}[i](dice, size)
				if err, place := check(p); err != api.OK {
					t.Error(name+" "+strconv.Itoa(size), i, p, err, place)
				}
			}
			for _, circles := range []bool{false, true} {
				if f := sample.Flat(dice, size, circles); !flat.Good(f) {
					t.Error(name, f)
				}
			}
			if c := sample.Code(dice, size); !safe.Right(c) {
				t.Error(name, c)
			}
			if x := sample.Trace(dice, max(size, 0)); !trace.Right(x) {
				t.Error(name, x)
			}
		}
	}
}
