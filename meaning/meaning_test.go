package meaning_test

import (
	"reflect"
	"strings"
	"testing"

	"foliot/api"
	"foliot/integer"
	"foliot/meaning"
	"foliot/parse"
	"foliot/ratio"
)

func program(t *testing.T, src string) api.Program {
	t.Helper()
	p, err, place := parse.Parse([]byte(src))
	if err != api.OK {
		t.Fatalf("%s: %v, %d", src, err, place)
	}
	return p
}

func script(horizon int64, cascade, bits int, l ...api.Change) api.Script {
	return api.Script{Horizon: ratio.Of(horizon), Cascade: cascade, Bits: bits, Changes: l}
}

func change(at string, input string, value int64) api.Change {
	t, _ := ratio.Parse(at)
	return api.Change{At: t, Input: input, Value: ratio.Of(value)}
}

// short tells a trace's times, each with its index, what the first output told, and its end: 1 done, 2 div, 3 cascade, 4 big.
func short(t api.Trace) string {
	var l []string
	put := func(at api.Rat, index int, what string) {
		l = append(l, ratio.Print(at)+"."+string(rune('0'+index))+" "+what)
	}
	for _, e := range t.Entries {
		v := e.Outs[0]
		put(e.At, e.Index, map[int]string{api.VNil: "?", api.VBool: "t", api.VNum: "", api.VCtor: v.Name}[v.Kind])
		if v.Kind == api.VNum || v.Kind == api.VBool {
			l[len(l)-1] += ratio.Print(v.Num)
		}
	}
	put(t.At, t.Index, "end"+string(rune('0'+t.End)))
	return strings.Join(l, ", ")
}

func TestSource(t *testing.T) {
	for _, x := range []struct {
		src    string
		script api.Script
		want   string
	}{
		{"hybrid main(v: rat) returns (x: rat) let der x = 1 init 0 reset 0 when up(x - 1); tel", script(2, 0, 64, change("1/2", "v", 1)), "0.0 0, 1/2.0 1/2, 1.0 0, 2.0 0, 2.0 end1"},
		{"node main(v: rat) returns (x: rat) let x = 1 / v; tel", script(2, 0, 64, change("0", "v", 2), change("1", "v", 0)), "0.0 1/2, 1.0 end2"},
		{"node main() returns (x: int) let automaton state A { x = 0; } until true then A end; tel", script(2, 2, 64), "0.0 0, 0.1 0, 0.2 0, 0.2 end3"},
		{"hybrid main(v: rat) returns (b: bool) let b = up(v - 1); tel", script(3, 1, 9, change("1", "v", 2)), "0.0 t0, 1.0 t0, 1.1 t1, 3.0 end1"},
		{"node main(v: rat) returns (n: int) let n = 0 -> pre n + 1; tel", script(3, 0, 1, change("1", "v", 0), change("2", "v", 0)), "0.0 0, 1.0 1, 1.0 end4"},
	} {
		if got, ok := meaning.Source(program(t, x.src), x.script, 50); !ok || short(got) != x.want {
			t.Errorf("%s: got %s", x.src, short(got))
		}
	}
}

func TestMost(t *testing.T) {
	// More instants than are asked for are not told, nor how the run ends.
	p := program(t, "node main() returns (x: int) let automaton state A { x = 0; } until true then A end; tel")
	if got, ok := meaning.Source(p, script(1, 9, 9), 3); !ok || short(got) != "0.0 0, 0.1 0, 0.2 0, 0.0 end0" {
		t.Error(short(got))
	}
}

func TestCircles(t *testing.T) {
	circle := program(t, "node main() returns (x: int, y: int) let x = y; y = x; tel")
	if got, ok := meaning.Source(circle, script(1, 0, 9), 9); ok || !reflect.DeepEqual(got, api.Trace{}) || meaning.Causal(circle) {
		t.Error(got)
	}
	none := program(t, "node main() returns (x: int, y: int) let x = 0 fby y; y = x; tel")
	if _, ok := meaning.Source(none, script(1, 0, 9), 9); !ok || !meaning.Causal(none) {
		t.Error("none")
	}
	for _, f := range []api.Flat{
		{Names: []string{"", ""}, Eqs: []api.FEq{{Var: 0, Op: "copy", Args: []int{1}, Guard: -1}, {Var: 1, Op: "copy", Args: []int{0}, Guard: -1}}},
		{Names: []string{""}, Eqs: []api.FEq{{Op: "lit", Guard: 0}}},
		{Names: []string{""}, Eqs: []api.FEq{{Op: "mem", Guard: -1}}, Mems: []api.Mem{{Guard: -1, Resets: []int{0}}}},
		{Names: []string{""}, Eqs: []api.FEq{{Op: "cont", Guard: -1}}, Conts: []api.Cont{{Guard: -1, Resets: []int{0}}}},
	} {
		if got, ok := meaning.Flat(f, script(1, 0, 9), 9); ok || !reflect.DeepEqual(got, api.Trace{}) {
			t.Error(f, got)
		}
	}
}

func num(s string) api.Value {
	r, _ := ratio.Parse(s)
	return api.Value{Kind: api.VNum, Num: r}
}

func truth(n int64) api.Value { return api.Value{Kind: api.VBool, Num: ratio.Of(n)} }

// tells asks what the last one of some equations tells, the Args of which are those ahead.
func tells(t *testing.T, want string, l ...api.FEq) {
	t.Helper()
	f := api.Flat{Outs: []int{len(l) - 1}}
	for i, q := range l {
		q.Var, q.Guard = i, -1
		f.Names, f.Eqs = append(f.Names, ""), append(f.Eqs, q)
	}
	if got, ok := meaning.Flat(f, script(0, 0, 8), 1); !ok || short(got) != want {
		t.Errorf("%v: got %s, want %s", l, short(got), want)
	}
}

func lit(v api.Value) api.FEq { return api.FEq{Op: "lit", Lit: v} }

func TestOps(t *testing.T) {
	// 12.4: what operations tell.
	red, green := api.Value{Kind: api.VCtor, Name: "Red"}, api.Value{Kind: api.VCtor, Name: "Green"}
	nothing := api.Value{}
	two := func(op string, a, b api.Value, want string) {
		t.Helper()
		end := ", 0.0 end1"
		if strings.HasPrefix(want, "end") {
			want, end = "0.0 "+want, ""
		} else {
			want = "0.0 " + want
		}
		tells(t, want+end, lit(a), lit(b), api.FEq{Op: op, Args: []int{0, 1}})
	}
	for _, x := range []string{"+ 3 4 7", "- 3 4 -1", "* 3 4 12", "/ 3 4 3/4", "div -7 2 -4", "mod -7 2 1", "div 7/2 1/2 7", "div -3/2 2 -1", "mod -3/2 2 1/2", "< 1 2 t1", "<= 2 2 t1", "> 1 2 t0", ">= 1 2 t0", "== 2 2 t1", "!= 2 2 t0", "/ 3 0 end2", "div 3 0 end2", "mod 3 0 end2", "* 16 16 end4", "/ 1/255 2 end4"} {
		l := strings.Fields(x)
		two(l[0], num(l[1]), num(l[2]), l[3])
	}
	for _, op := range strings.Fields("+ - * / div mod < <= > >= == != and or") {
		two(op, nothing, num("0"), "?")
		two(op, num("1"), nothing, "?")
	}
	two("and", truth(1), truth(0), "t0")
	two("and", truth(1), truth(1), "t1")
	two("or", truth(0), truth(1), "t1")
	two("or", truth(0), truth(0), "t0")
	two("==", red, red, "t1")
	two("==", red, green, "t0")
	two("!=", red, green, "t1")
	two("==", truth(1), num("1"), "t0")
	two("==", truth(1), truth(1), "t1")
	two("gand", truth(1), truth(1), "t1")
	two("gand", truth(1), nothing, "t0")
	two("mrg", truth(1), num("5"), "5")
	two("mrg", truth(0), num("5"), "?")
	two("mrg", nothing, num("5"), "?")
	one := func(op string, a api.Value, want string) {
		t.Helper()
		tells(t, "0.0 "+want+", 0.0 end1", lit(a), api.FEq{Op: op, Args: []int{0}})
	}
	one("neg", num("3"), "-3")
	one("not", truth(0), "t1")
	one("floor", num("-3/2"), "-2")
	one("rat", num("3"), "3")
	one("copy", red, "Red")
	one("mrg", red, "Red")
	for _, op := range strings.Fields("neg not floor rat copy") {
		one(op, nothing, "?")
	}
	three := func(a, b, c api.Value, want string) {
		t.Helper()
		tells(t, "0.0 "+want+", 0.0 end1", lit(a), lit(b), lit(c), api.FEq{Op: "sel", Args: []int{0, 1, 2}})
	}
	three(truth(1), red, nothing, "Red")
	three(truth(0), nothing, green, "Green")
	three(nothing, red, green, "?")
	tells(t, "0.0 end4", lit(num("256")))
	tells(t, "0.0 255, 0.0 end1", lit(num("255")))
}

func TestKept(t *testing.T) {
	// 12.4: memories, states, slopes, crossings, what asks for more; the flag is of a crossing at 2/3 and 4/3.
	f := api.Flat{
		Ins: []string{"v"}, Names: make([]string, 9), Outs: []int{1, 2, 3, 8},
		Eqs: []api.FEq{
			{Var: 0, Op: "in", Guard: -1},
			{Var: 1, Op: "mem", Guard: -1},
			{Var: 2, Op: "cont", Guard: -1},
			{Var: 3, Op: "flag", Guard: -1},
			{Var: 4, Op: "lit", Lit: num("3"), Guard: -1},
			{Var: 5, Op: "+", Args: []int{1, 4}, Guard: -1},
			{Var: 6, Op: "lit", Lit: num("-2"), Guard: -1},
			{Var: 7, Op: "sel", Args: []int{3, 0, 2}, Guard: -1},
			{Var: 8, Op: "copy", Args: []int{4}, Guard: 3},
		},
		Mems:  []api.Mem{{Init: num("7"), Next: 5, Guard: -1}, {Init: num("100"), Next: 5, Guard: 3}},
		Conts: []api.Cont{{Init: num("0"), Var: 7, Guard: -1, Slopes: []api.Slope{{Guard: 3, Var: 4}, {Guard: -1, Var: 4}}}},
		Cross: []api.Cross{{Guard: -1, Ops: []api.COp{{Op: "cont", Args: []int{0}}, {Op: "var", Args: []int{6}}, {Op: "+", Args: []int{0, 1}}}}},
	}
	got, ok := meaning.Flat(f, script(2, 0, 9, change("1", "v", 1)), 20)
	want := [][]string{{"7", "0", "0", "?"}, {"10", "2", "1", "3"}, {"13", "1", "0", "?"}, {"16", "2", "1", "3"}}
	if !ok || short(got) != "0.0 7, 2/3.0 10, 1.0 13, 4/3.0 16, 5/3.0 19, 2.0 22, 2.0 end1" {
		t.Fatal(short(got))
	}
	for i, l := range want {
		for k, v := range got.Entries[i].Outs {
			text := "?"
			if v.Kind != api.VNil {
				text = ratio.Print(v.Num)
			}
			if text != l[k] {
				t.Error(i, k, text)
			}
		}
	}
}

func TestCode(t *testing.T) {
	// 17.2 to 17.5: bodies go instruction by instruction; what is not on tells nothing, or does nothing.
	in := func(op string, dst, k int, args ...int) api.Ins {
		return api.Ins{Op: op, Dst: dst, K: k, Args: args, Guard: -1}
	}
	if got := meaning.Code(api.Code{Ins: 1, Outs: 1, Slots: 1, Step: []api.Ins{in("in", 0, 0), in("neg", 0, 0, 0), in("out", 0, 0, 0)}}, []string{"v"}, script(1, 0, 9, change("1", "v", 3)), 9); short(got) != "0.0 0, 1.0 -3, 1.0 end1" {
		t.Error(short(got))
	}
	// A state that goes on by 2 from 0 to 3, and begins anew there; it has crossings that are on, that are not, and that ask for what stays.
	when := func(guard int, x api.Ins) api.Ins {
		x.Guard, x.Resets = guard, []int{2}
		return x
	}
	number := func(dst int, s string) api.Ins { return api.Ins{Op: "lit", Dst: dst, Lit: num(s), Guard: -1} }
	c := api.Code{Outs: 1, Slots: 6, Crosses: 4, Lines: 5, Conts: []api.Value{num("0"), num("5")}, Mems: []api.Value{num("9")},
		Step: []api.Ins{
			{Op: "lit", Dst: 0, Lit: truth(1), Guard: -1}, {Op: "lit", Dst: 1, Lit: truth(0), Guard: -1}, in("flag", 2, 1),
			number(3, "2"), number(4, "-3"), when(-1, in("cont", 5, 0)), when(0, in("state", 0, 0, 5)), when(1, in("state", 0, 1, 5)), when(1, in("keep", 0, 0, 5)),
			when(0, in("out", 0, 0, 5)), when(1, in("out", 0, 0, 4)), when(1, in("again", 0, 0, 0)), in("again", 0, 0, 1),
		},
		Deriv: []api.Ins{when(0, in("slope", 0, 0, 1, 4, 0, 3, -1, 4)), when(1, in("slope", 0, 1, -1, 3))},
		Cross: []api.Ins{
			in("lcont", 0, 0), when(0, in("lvar", 1, 0, 4)), in("l+", 2, 0, 0, 1), in("lcont", 3, 1), when(1, in("lcont", 4, 0)),
			in("ask", 0, 1, 2), in("ask", 0, 0, 3), when(1, in("ask", 0, 2, 2)), in("ask", 0, 3, 4),
		},
	}
	if got := meaning.Code(c, nil, script(4, 0, 9), 9); short(got) != "0.0 0, 3/2.0 0, 3.0 0, 4.0 end1" {
		t.Error(short(got))
	}
	c.Step[6].Guard = 1 // the state is not written to, and begins anew alone
	if got := meaning.Code(c, nil, script(4, 0, 9), 9); short(got) != "0.0 0, 3/2.0 0, 3.0 0, 4.0 end1" {
		t.Error(short(got))
	}
	c.Deriv[0].Guard = 1 // it does not go on
	if got := meaning.Code(c, nil, script(4, 0, 9), 9); short(got) != "0.0 0, 4.0 end1" {
		t.Error(short(got))
	}
	c.Deriv[0].Guard, c.Deriv[0].Args = -1, nil // it goes on by 0
	if got := meaning.Code(c, nil, script(4, 0, 9), 9); short(got) != "0.0 0, 4.0 end1" {
		t.Error(short(got))
	}
}

// clock is a machine of one input: a state goes on by 1 from -1, and an up asks for it, the second one of two; when that passes, it begins anew. Its input says what goes wrong.
type clock struct {
	in    int64
	state api.Rat
	pass  bool
}

func (c *clock) Step(in []api.Rat, flags []bool, bits int) (bool, bool) {
	c.in, _ = integer.Small(in[0].Num)
	c.pass = len(flags) == 2 && !flags[0] && flags[1]
	if c.pass || len(c.state.Den) == 0 {
		c.state = ratio.Of(-1)
	}
	return c.in == 1, c.in == 2
}

func (c *clock) Deriv() {}

func (c *clock) Cross(bits int) ([]api.Line, bool, bool) {
	return []api.Line{{}, {On: true, V: c.state, S: ratio.Of(1)}}, c.in == 3, c.in == 4
}

func (c *clock) Move(dt api.Rat, bits int) bool {
	c.state = ratio.Add(c.state, dt)
	return c.in != 5
}

func (c *clock) Outs() []api.Value {
	if c.pass {
		return []api.Value{truth(1)}
	}
	return []api.Value{truth(0)}
}

func (c *clock) Again() bool { return c.in == 6 }

func TestRun(t *testing.T) {
	// 12.2, of a machine's calls.
	for in, want := range []string{
		"0.0 t0, 1/2.0 t0, 1.0 t1, 2.0 t1, 2.0 end1", "0.0 t0, 1/2.0 end2", "0.0 t0, 1/2.0 end4", "0.0 t0, 1/2.0 end2", "0.0 t0, 1/2.0 end4", "0.0 t0, 1/2.0 t0, 1/2.0 end4",
		"0.0 t0, 1/2.0 t0, 1/2.1 t0, 1/2.2 t0, 1/2.2 end3",
	} {
		if got := meaning.Run(&clock{}, []string{"v"}, script(2, 2, 9, change("1/2", "v", int64(in))), 20); short(got) != want {
			t.Error(in, short(got))
		}
	}
	if got := meaning.Run(&clock{}, []string{"v"}, script(9, 2, 9), 3); short(got) != "0.0 t0, 1.0 t1, 2.0 t1, 0.0 end0" {
		t.Error(short(got))
	}
}
