package exec_test

import (
	"math"
	"math/rand"
	"reflect"
	"slices"
	"strconv"
	"strings"
	"testing"

	"foliot/api"
	"foliot/cause"
	"foliot/code"
	"foliot/exec"
	"foliot/flat"
	"foliot/meaning"
	"foliot/plan"
	"foliot/ratio"
	"foliot/safe"
	"foliot/sample"
)

// anyNumber is one in any form.
func anyNumber(r *rand.Rand) api.Rat {
	a, _ := ratio.Div(ratio.Of(int64(r.Intn(15)-7)), ratio.Of(int64(1+r.Intn(4))))
	if r.Intn(6) == 0 {
		a = ratio.Mul(a, ratio.Of(1<<31-1))
	}
	if r.Intn(4) == 0 {
		l := forms(rat(strconv.Itoa(r.Intn(5)-2) + "/" + strconv.Itoa(1+r.Intn(3))))
		a = l[r.Intn(len(l))]
	}
	return a
}

// anyValue is one that may mean something: a truth of 0 or 1 in any form, a constructor that may have a number, too.
func anyValue(r *rand.Rand) api.Value {
	switch r.Intn(8) {
	case 0:
		return api.Value{}
	case 1, 2:
		l := forms(ratio.Of(int64(r.Intn(2))))
		return api.Value{Kind: api.VBool, Num: l[r.Intn(len(l))]}
	case 3:
		return api.Value{Kind: api.VCtor, Name: []string{"Red", "Green"}[r.Intn(2)], Num: []api.Rat{{}, ratio.Of(3)}[r.Intn(8)/7]}
	}
	return api.Value{Kind: api.VNum, Num: anyNumber(r)}
}

// anyCode is object code that may run, of any values.
func anyCode(r *rand.Rand) api.Code {
	c := sample.Code(r.Intn, r.Intn(25))
	if r.Intn(3) == 0 {
		c = planned(r.Intn, sample.Flat(r.Intn, r.Intn(25), false))
	}
	c.Mems, c.Conts = slices.Clone(c.Mems), slices.Clone(c.Conts)
	for i := range c.Mems {
		c.Mems[i] = anyValue(r)
	}
	for i := range c.Conts {
		c.Conts[i] = anyValue(r)
	}
	for i := range c.Step {
		if c.Step[i].Lit.Kind == api.VNum {
			c.Step[i].Lit = anyValue(r)
		}
	}
	if r.Intn(2) == 0 {
		lively(r, &c)
	}
	return c
}

// lively lets all states of object code go on by a number, as far as Step leaves them numbers.
func lively(r *rand.Rand, c *api.Code) {
	if c.Slots == 0 {
		return
	}
	slot := r.Intn(c.Slots)
	c.Step = append(slices.Clone(c.Step), api.Ins{Op: "lit", Dst: slot, Lit: api.Value{Kind: api.VNum, Num: anyNumber(r)}, Guard: -1})
	c.Deriv = slices.Clone(c.Deriv)
	for k := range c.Conts {
		c.Conts[k] = api.Value{Kind: api.VNum, Num: anyNumber(r)}
		c.Deriv = append(c.Deriv, api.Ins{Op: "slope", K: k, Args: []int{slot, slot, -1, slot}, Guard: -1})
	}
}

// planned is the object code of a flat program, by layer 14's plan, or by another one that is right.
func planned(r func(int) int, f api.Flat) api.Code {
	p, _ := plan.Of(f)
	if r(2) == 0 {
		n := len(f.Names)
		p.Order, p.Slots = sample.Order(r, cause.Needs(f)), n+r(3)
		p.Slot = sample.Order(r, make([][]int, p.Slots))[:n]
	}
	c, err := code.Of(f, p)
	if err != api.OK {
		panic(err)
	}
	return c
}

// anyBits is how many a number may have.
func anyBits(r *rand.Rand) int {
	return []int{64, 64, 64, 64, 64, 64, 64, 64, 64, 200, 30, 8, 5, 3, 2, 1, 0, -1, math.MinInt}[r.Intn(19)]
}

// anyIn is what an instant is handed: too little of it, or too much.
func anyIn(r *rand.Rand) ([]api.Rat, []bool) {
	var in []api.Rat
	var flags []bool
	for range r.Intn(8) {
		in = append(in, anyNumber(r))
	}
	for range r.Intn(8) {
		flags = append(flags, r.Intn(2) == 0)
	}
	return in, flags
}

// tally counts what was seen.
type tally map[string]int

func (n tally) note(what string, is bool) {
	if is {
		n[what]++
	}
}

func (n tally) least(t *testing.T, least int, what ...string) {
	t.Helper()
	for _, x := range what {
		if n[x] < least {
			t.Error(x, n[x])
		}
	}
}

// both does one of the calls of a machine and of its words, and tells what both told.
func both(r *rand.Rand, m *exec.Machine, w *words, n tally) (got, want string) {
	bits := anyBits(r)
	switch r.Intn(5) {
	case 0, 1:
		in, flags := anyIn(r)
		div, big := m.Step(in, flags, bits)
		wDiv, wBig := w.step(in, flags, bits)
		n.note("step div", div)
		n.note("step big", big)
		return faultsOf(div, big), faultsOf(wDiv, wBig)
	case 2:
		m.Deriv()
		w.deriv()
		n.note("goes on", strings.Contains(linesOf(m.States()), "+"))
		return "", ""
	case 3:
		l, div, big := m.Cross(bits)
		wl, wDiv, wBig := w.cross(bits)
		n.note("cross div", div)
		n.note("cross big", big)
		n.note("asks", strings.Contains(linesOf(l), "+"))
		return linesOf(l) + faultsOf(div, big), wordLines(wl) + faultsOf(wDiv, wBig)
	}
	dt := anyNumber(r)
	ahead := textsOf(m.Conts())
	ok, wOk := m.Move(dt, bits), w.move(dt, bits)
	n.note("refused", !ok)
	n.note("moved", ahead != textsOf(m.Conts()))
	return strconv.FormatBool(ok), strconv.FormatBool(wOk)
}

func TestRandomCalls(t *testing.T) {
	// 17.1 to 17.5: all calls, in any order, at any numbers, do what the words say.
	n := tally{}
	for seed := range int64(20000) {
		r := dice(seed)
		c := anyCode(r)
		m, w := made(t, c), newWords(c)
		for range 2 + r.Intn(12) {
			got, want := both(r, m, w, n)
			if got != want || kept(m) != w.kept() {
				t.Fatalf("%v\ngot  %s: %s\nwant %s: %s", c, got, kept(m), want, w.kept())
			}
		}
	}
	n.least(t, 500, "step div", "step big", "goes on", "cross div", "cross big", "asks", "refused", "moved")
}

func TestBetween(t *testing.T) {
	// 17.6: Deriv and Cross change no memory, no state, no output, nor whether one more instant is asked for; Cross not how states go on; Move nothing but states.
	n := tally{}
	for seed := range int64(3000) {
		r := dice(seed)
		m := made(t, anyCode(r))
		for range 4 {
			in, flags := anyIn(r)
			m.Step(in, flags, 64)
			tells := func() string {
				return textsOf(m.Outs()) + ";" + textsOf(m.Mems()) + ";" + strconv.FormatBool(m.Again())
			}
			step, states, lines := tells(), textsOf(m.Conts()), linesOf(m.States())
			m.Deriv()
			n.note("told anew", lines != linesOf(m.States()))
			if step != tells() || states != textsOf(m.Conts()) {
				t.Fatal(step, tells())
			}
			lines = linesOf(m.States())
			first := crossed(m, 64)
			if step != tells() || states != textsOf(m.Conts()) || lines != linesOf(m.States()) || first != crossed(m, 64) {
				t.Fatal(step, tells())
			}
			n.note("asked", strings.Contains(first, "+"))
			m.Move(ratio.Of(int64(r.Intn(3))), 64)
			n.note("moved", states != textsOf(m.Conts()))
			if step != tells() {
				t.Fatal(step, tells())
			}
		}
	}
	n.least(t, 500, "told anew", "asked", "moved")
}

// traceText tells a trace.
func traceText(x api.Trace) string {
	out := ""
	put := func(at api.Rat, index int, what string) {
		out += ratio.Print(at) + "." + strconv.Itoa(index) + " " + what + "\n"
	}
	for _, e := range x.Entries {
		put(e.At, e.Index, textsOf(e.Outs))
	}
	put(x.At, x.Index, "end "+strconv.Itoa(x.End))
	return out
}

// runs asks that a machine runs by a script as it ought to.
func (n tally) runs(t *testing.T, c api.Code, ins []string, s api.Script, want api.Trace, ok bool) {
	t.Helper()
	if got := meaning.Run(made(t, c), ins, s, 20); !ok || traceText(got) != traceText(want) {
		t.Fatalf("%v\n%v\ngot\n%swant\n%s", c, s, traceText(got), traceText(want))
	}
	n["end "+strconv.Itoa(want.End)]++
	n["instants"] += len(want.Entries)
}

func TestRandomFlats(t *testing.T) {
	// 17.6, P6: what is made of a flat program, by any plan, does what that does.
	n := tally{}
	for seed := range int64(3000) {
		r := dice(seed).Intn
		f := sample.Flat(r, r(40), false)
		s := sample.Script(r, f.Ins)
		want, ok := meaning.Flat(f, s, 20)
		n.runs(t, planned(r, f), f.Ins, s, want, ok)
	}
	n.least(t, 30, "end 2", "end 3", "end 4")
	n.least(t, 500, "end 1")
	n.least(t, 5000, "instants")
}

func TestRandomPrograms(t *testing.T) {
	// P6: what is made of a source does what that means.
	n := tally{}
	for seed := range int64(600) {
		r := dice(seed).Intn
		p := sample.Causal(r, 60)
		f, err, _ := flat.Of(p)
		if err != api.OK {
			t.Fatal(err)
		}
		s := sample.Script(r, f.Ins)
		want, ok := meaning.Source(p, s, 20)
		n.runs(t, planned(r, f), f.Ins, s, want, ok)
	}
	n.least(t, 100, "end 1")
	n.least(t, 1000, "instants")
}

func TestRandomCodes(t *testing.T) {
	// 17.1: a machine is made of what may run, and of nothing else; a run of it is that of the words.
	n := tally{}
	for seed := range int64(5000) {
		r := dice(seed)
		c := sample.Code(r.Intn, r.Intn(15))
		if len(c.Step) > 0 {
			x := &c.Step[r.Intn(len(c.Step))]
			*[]*int{&x.Dst, &x.K, &x.Guard, &c.Slots}[r.Intn(4)] = r.Intn(7) - 1
		}
		m, err := exec.New(c)
		right := safe.Right(c)
		n.note("right", right)
		n.note("not right", !right)
		if (err == api.OK) != right || (m != nil) != right || !right && err != api.ErrCode {
			t.Fatal(c, m, err)
		}
		if right {
			ins := []string{"a", "b", "c", "d", "e", "f", "g"}[:c.Ins]
			s := sample.Script(r.Intn, ins)
			n.runs(t, c, ins, s, meaning.Code(c, ins, s, 20), true)
		}
	}
	n.least(t, 1000, "right", "not right")
}

// limbs are a number's lists, to the end of their memory.
func limbs(l ...api.Rat) [][]uint32 {
	var out [][]uint32
	for _, a := range l {
		out = append(out, a.Num.Mag[:cap(a.Num.Mag)], a.Den[:cap(a.Den)])
	}
	return out
}

func numbersOf(l []api.Value) []api.Rat {
	var out []api.Rat
	for _, v := range l {
		out = append(out, v.Num)
	}
	return out
}

func numbersIn(l []api.Line) []api.Rat {
	var out []api.Rat
	for _, x := range l {
		out = append(out, x.V, x.S)
	}
	return out
}

// spoil writes into lists to the end of their memory.
func spoil(l [][]uint32) {
	for _, x := range l {
		for i := range x {
			x[i] = 0xbad
		}
	}
}

// roomy is a copy of a number, with more behind the ends of its lists.
func roomy(a api.Rat) api.Rat {
	more := func(l []uint32) []uint32 { return append(slices.Clone(l), 70, 71)[:len(l)] }
	return api.Rat{Num: api.Int{Neg: a.Num.Neg, Mag: more(a.Num.Mag)}, Den: more(a.Den)}
}

// roomyCode is a copy of object code, with more behind the ends of its lists.
func roomyCode(c api.Code) api.Code {
	value := func(v api.Value) api.Value {
		v.Num = roomy(v.Num)
		return v
	}
	for _, l := range []*[]api.Value{&c.Mems, &c.Conts} {
		*l = longer(*l, api.Value{Kind: 9})
		for i, v := range *l {
			(*l)[i] = value(v)
		}
	}
	for _, l := range []*[]api.Ins{&c.Step, &c.Deriv, &c.Cross} {
		*l = longer(*l, api.Ins{Op: "behind"})
		for i := range *l {
			x := &(*l)[i]
			x.Args, x.Resets, x.Lit = longer(x.Args, 80), longer(x.Resets, 90), value(x.Lit)
		}
	}
	return c
}

func longer[T any](l []T, behind T) []T { return append(slices.Clone(l), behind)[:len(l)] }

// whole is all that stands in object code, to behind its lists' ends.
func whole(c api.Code) []any {
	var out []any
	values := func(l []api.Value) {
		for _, v := range l {
			out = append(out, v.Kind, v.Name, v.Num.Num.Neg, limbs(v.Num))
		}
	}
	out = append(out, c.Ins, c.Outs, c.Slots, c.Crosses, c.Lines)
	values(c.Mems[:len(c.Mems)+1])
	values(c.Conts[:len(c.Conts)+1])
	for _, l := range [][]api.Ins{c.Step, c.Deriv, c.Cross} {
		for _, x := range l {
			out = append(out, x.Op, x.Dst, x.K, x.Guard, x.Args[:len(x.Args)+1], x.Resets[:len(x.Resets)+1])
			values([]api.Value{x.Lit})
		}
		out = append(out, l[:len(l)+1][len(l)].Op)
	}
	return out
}

// ruin writes into all of object code.
func ruin(c api.Code) {
	for _, l := range [][]api.Value{c.Mems, c.Conts} {
		spoil(limbs(numbersOf(l)...))
		clear(l)
	}
	for _, l := range [][]api.Ins{c.Step, c.Deriv, c.Cross} {
		for _, x := range l {
			spoil(limbs(x.Lit.Num))
			for i := range x.Args {
				x.Args[i] = -9
			}
			for i := range x.Resets {
				x.Resets[i] = 999
			}
		}
		clear(l)
	}
}

func TestNothingIsKept(t *testing.T) {
	// R4: what is handed in is as it was, to behind its lists' ends, and may be written to behind the call; so may what was told. Nothing of that is seen again.
	for seed := range int64(2000) {
		r := dice(seed)
		c := anyCode(r)
		handed := roomyCode(c)
		ahead := whole(handed)
		m, w := made(t, handed), newWords(c)
		if !reflect.DeepEqual(whole(handed), whole(roomyCode(c))) {
			t.Fatal(ahead)
		}
		ruin(handed)
		for range 4 {
			in, flags := anyIn(r)
			given := longer(nil, api.Rat{})
			for _, a := range in {
				given = append(given, roomy(a))
			}
			given = longer(given, roomy(rat("5")))
			was := limbs(given[:len(in)+1]...)
			before := cloned(was)
			marks := longer(flags, true)
			m.Step(given, marks, 64)
			w.step(in, flags, 64)
			m.Deriv()
			w.deriv()
			l, _, _ := m.Cross(64)
			wl, _, _ := w.cross(64)
			dt := roomy(anyNumber(r))
			m.Move(dt, 64)
			w.move(dt, 64)
			if !reflect.DeepEqual(was, before) || !slices.Equal(marks, flags) || !marks[:len(flags)+1][len(flags)] {
				t.Fatal(was, before, marks)
			}
			if linesOf(l) != wordLines(wl) || kept(m) != w.kept() {
				t.Fatal(linesOf(l), wordLines(wl), kept(m), w.kept())
			}
			spoil(was)
			spoil(limbs(dt))
			for _, told := range [][]api.Rat{numbersIn(l), numbersOf(m.Outs()), numbersOf(m.Mems()), numbersOf(m.Conts()), numbersIn(m.States())} {
				spoil(limbs(told...))
			}
			for _, told := range [][]api.Value{m.Outs(), m.Mems(), m.Conts()} {
				clear(told)
			}
			clear(m.States())
			if kept(m) != w.kept() {
				t.Fatal(kept(m), w.kept())
			}
		}
	}
}

func cloned(l [][]uint32) [][]uint32 {
	var out [][]uint32
	for _, x := range l {
		out = append(out, slices.Clone(x))
	}
	return out
}

func TestNoTwoListsAreOne(t *testing.T) {
	// R4: no two lists of one answer share memory, be they of one number.
	c := api.Code{Ins: 1, Outs: 3, Slots: 1, Crosses: 2, Lines: 1, Mems: vals("1 1"), Conts: vals("1 1"),
		Step:  body("in; out <0; out k1 <0; out k2 <0; keep <0; keep k1 <0; state <0; state k1 <0"),
		Deriv: body("slope <-1,0; slope k1 <-1,0"), Cross: body("lcont; ask <0; ask k1 <0")}
	m := between(t, c, "7/3")
	l, _, _ := m.Cross(64)
	for i, told := range [][]api.Rat{numbersOf(m.Outs()), numbersOf(m.Mems()), numbersOf(m.Conts()), numbersIn(m.States()), numbersIn(l)} {
		lists := limbs(told...)
		for k, x := range lists {
			before := cloned(lists)
			spoil([][]uint32{x})
			before[k] = lists[k]
			if !reflect.DeepEqual(lists, before) {
				t.Error(i, k)
			}
		}
	}
	is(t, "as it was", kept(m), "7/3 7/3 7/3; 7/3 7/3; 7/3 7/3; 7/3+7/3 7/3+7/3")
}

func TestGreat(t *testing.T) {
	// R1: great object code runs, too; great numbers, and great rows of what is handed in.
	const n = api.MaxCode
	every, pairs := make([]int, n), make([]int, 2*n)
	c := api.Code{Ins: n, Outs: n, Slots: n, Crosses: n, Lines: n, Mems: make([]api.Value, n), Conts: make([]api.Value, n)}
	for i := range n {
		every[i], pairs[2*i], pairs[2*i+1] = i, i, i
		c.Conts[i] = val("1")
		c.Step = append(c.Step, api.Ins{Op: "in", Dst: i, K: n - 1 - i, Guard: -1})
		c.Deriv = append(c.Deriv, api.Ins{Op: "slope", K: i, Args: []int{-1, i}, Guard: -1})
		c.Cross = append(c.Cross, api.Ins{Op: "lcont", Dst: i, K: i, Guard: -1}, api.Ins{Op: "ask", K: n - 1 - i, Args: []int{i}, Guard: -1})
	}
	for i := range n {
		c.Step = append(c.Step, api.Ins{Op: "out", K: i, Args: []int{i}, Guard: -1}, api.Ins{Op: "keep", K: i, Args: []int{i}, Guard: 0, Resets: every[:i%3]})
	}
	c.Step = append(c.Step, api.Ins{Op: "mrg", Dst: 1, Args: every, Guard: -1}, api.Ins{Op: "gand", Dst: 1, Args: every, Guard: -1}, api.Ins{Op: "again", Args: []int{1}, Guard: -1})
	c.Deriv = append(c.Deriv, api.Ins{Op: "slope", K: 5, Args: pairs, Guard: -1})
	m := made(t, c)
	in := slices.Repeat([]api.Rat{ratio.Of(3)}, n)
	in[0] = ratio.Of(4)
	if div, big := m.Step(in, nil, 64); div || big {
		t.Error(div, big)
	}
	m.Deriv()
	l, div, big := m.Cross(64)
	if !m.Move(rat("1/3"), 64) || div || big || len(l) != n || len(m.States()) != n || len(m.Mems()) != n {
		t.Error(div, big, len(l))
	}
	is(t, "first and last", textsOf([]api.Value{m.Outs()[0], m.Outs()[n-1], m.Conts()[0], m.Conts()[5], m.Conts()[n-1]}), "3 4 2 1 7/3")
	is(t, "lines", linesOf([]api.Line{l[0], l[n-1]}), "1+4 1+3")

	// Numbers that are squared again and again come to an end at so many bits.
	c = api.Code{Outs: 1, Slots: 1, Step: body("lit @3/2")}
	for range 1000 {
		c.Step = append(c.Step, body("* <0,0")...)
	}
	c.Step = append(c.Step, body("out <0")...)
	for _, bits := range []int{2, 900, 20000} {
		is(t, "squares", stepped(made(t, c), "", bits), "? big")
	}
}
