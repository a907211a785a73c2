package flat_test

import (
	"cmp"
	"reflect"
	"slices"
	"testing"

	"foliot/api"
	"foliot/flat"
	"foliot/inits"
	"foliot/meaning"
	"foliot/sample"
)

func TestErrors(t *testing.T) {
	// 12.5: the error of layer 11, if there is one, and nothing beside it; ahead of a weight that is too great.
	for _, src := range []string{
		"node f() returns (x: int) let x = 1; tel",
		"node main() returns (x: int) let x = y; tel",
		"node main() returns (x: int) let x = 1.5; tel",
		"node main() returns (x: rat init 0) let der x = 1; tel",
		"node main() returns (x: int) let x = pre x; tel",
		"node main(c: bool) returns (x: int) let x = 1; tel",
	} {
		p := program(t, src)
		want, at := inits.Check(p)
		if f, err, place := flat.Of(p); want == api.OK || err != want || place != at || !reflect.DeepEqual(f, api.Flat{}) {
			t.Error(src, err, place, want, at)
		}
	}
	if f, err, place := flat.Of(api.Program{Nodes: []api.Node{{Name: "Main"}}}); err != api.ErrArg || place != 0 || !reflect.DeepEqual(f, api.Flat{}) {
		t.Error(err, place)
	}
	p := padded(t, program(t, "node main() returns (x: int) let x = pre x; tel"), api.MaxFlat+100)
	if _, err, _ := flat.Of(p); err != api.ErrInit {
		t.Error(err)
	}
}

func TestRandomAny(t *testing.T) {
	// 12.5: of programs that are not right for layer 11 its error; of others a good flat program, be they causal or not.
	for seed := range int64(1500) {
		p := []func(func(int) int, int) api.Program{sample.Program, sample.Kinded, sample.Begun}[seed%3](dice(seed).Intn, 40)
		want, at := inits.Check(p)
		f, err, place := flat.Of(p)
		if err != want || place != at || err == api.OK && !flat.Good(f) || err != api.OK && !reflect.DeepEqual(f, api.Flat{}) {
			t.Fatal(p, err, place)
		}
	}
}

func TestFaces(t *testing.T) {
	// 12.5: a flat program's inputs and outputs are main's, in their order; each call has its own states and crossings.
	f := flattened(t, program(t, "hybrid f(a: rat) returns (x: rat init 0, b: bool) let der x = a; b = up(x - 1) or up(x - 2); tel hybrid main(v: rat, u: rat) returns (c: bool, y: rat, d: bool) var x: rat; let (x, c) = f(u); (y, d) = f(v); tel"))
	if !slices.Equal(f.Ins, []string{"v", "u"}) || len(f.Outs) != 3 || len(f.Conts) != 2 || len(f.Cross) != 4 || len(f.Again) != 0 {
		t.Error(f)
	}
	got, _ := meaning.Flat(f, scriptOf("3 0 64 0 u 1 0 v 2"), 9)
	if want := "0 0: false 0 false; 1/2 0: false 1 true; 1 0: true 2 true; 2 0: true 4 false; done 3"; textOf(got) != want {
		t.Error(textOf(got))
	}
}

func TestNothingIsChanged(t *testing.T) {
	// R4, R5: the same programs, made twice: one is asked, the other is not.
	for seed := range int64(1000) {
		p, q := sample.Causal(dice(seed).Intn, 60), sample.Causal(dice(seed).Intn, 60)
		f, err, _ := flat.Of(p)
		if !reflect.DeepEqual(p, q) {
			t.Fatal(seed)
		}
		g, _, _ := flat.Of(q)
		if err != api.OK || !reflect.DeepEqual(f, g) {
			t.Fatal(seed)
		}
		if !flat.Good(f) || !reflect.DeepEqual(f, g) {
			t.Fatal(seed)
		}
	}
}

// span is where a list lies.
type span struct{ from, to uintptr }

// spans lists where the lists lie that something holds, but those without room.
func spans(v reflect.Value) []span {
	var out []span
	switch v.Kind() {
	case reflect.Struct:
		for i := range v.NumField() {
			out = append(out, spans(v.Field(i))...)
		}
	case reflect.Slice:
		if v.Cap() > 0 {
			at := v.Pointer()
			out = append(out, span{at, at + uintptr(v.Cap())*v.Type().Elem().Size()})
		}
		for i := range v.Len() {
			out = append(out, spans(v.Index(i))...)
		}
	}
	return out
}

func TestMemory(t *testing.T) {
	// R4: no two lists of an answer share memory, not even behind their ends, nor with what was handed in.
	for seed := range int64(500) {
		p := sample.Causal(dice(seed).Intn, 100)
		f, _, _ := flat.Of(p)
		l := append(spans(reflect.ValueOf(f)), spans(reflect.ValueOf(p))...)
		slices.SortFunc(l, func(a, b span) int { return cmp.Compare(a.from, b.from) })
		for i := range l[1:] {
			if l[i].to > l[i+1].from {
				t.Fatal(seed, l[i], l[i+1])
			}
		}
	}
}

func TestBehindEnds(t *testing.T) {
	// R4: what lies behind a list's end is neither read nor written to.
	source := func(more string) api.Program {
		return program(t, "node main(v: rat) returns (x: int init 0, y: int) let reset { x = 0 -> pre x + 1; } every v > 0; y = f(x);"+more+" tel node f(a: int) returns (b: int) let b = a; tel")
	}
	p := source(" z = 1;")
	q := p
	q.Nodes = slices.Clone(p.Nodes)
	q.Nodes[0].Eqs = p.Nodes[0].Eqs[:2]
	if !reflect.DeepEqual(flattened(t, q), flattened(t, source(""))) || !reflect.DeepEqual(p, source(" z = 1;")) {
		t.Error(p)
	}
	// Of a flat program, too.
	h := all()
	h.Eqs[11].Args = append(h.Eqs[11].Args, 999)[:4]
	h.Outs = append(h.Outs, -7)[:2]
	h.Cross[0].Ops = append(h.Cross[0].Ops, api.COp{})[:9]
	if !flat.Good(h) {
		t.Error("behind ends")
	}
}

func TestWhateverIsGiven(t *testing.T) {
	// R1: Good ends at all flat programs, whatever stands in them.
	r := dice(1)
	odd := func() int { return []int{-1 << 63, -2, -1, 0, 1, 2, 3, 1<<63 - 1}[r.Intn(8)] }
	row := func() []int {
		var l []int
		for range r.Intn(4) {
			l = append(l, odd())
		}
		return l
	}
	ops := []string{"", "lit", "in", "mem", "cont", "flag", "copy", "neg", "mrg", "gand", "sel", "+", "*", "var", "/", "-"}
	good := 0
	for range 20000 {
		f := api.Flat{Outs: row()[:0], Again: nil}
		if r.Intn(4) == 0 {
			f.Outs, f.Again = row(), row()
		}
		for i := range r.Intn(4) {
			f.Names = append(f.Names, "x")
			f.Eqs = append(f.Eqs, api.FEq{Var: i, Op: ops[r.Intn(len(ops))], Args: row(), K: odd(), Guard: odd()})
		}
		if r.Intn(4) == 0 {
			f.Mems = []api.Mem{{Next: odd(), Guard: odd(), Resets: row()}}
			f.Conts = []api.Cont{{Var: odd(), Guard: odd(), Resets: row(), Slopes: []api.Slope{{Guard: odd(), Var: odd()}}}}
		}
		if r.Intn(4) == 0 {
			f.Cross = []api.Cross{{Guard: odd(), Ops: []api.COp{{Op: ops[r.Intn(len(ops))], Args: row()}, {Op: ops[r.Intn(len(ops))], Args: row()}}}}
		}
		if flat.Good(f) {
			good++
		}
	}
	if good < 100 {
		t.Error(good)
	}
}
