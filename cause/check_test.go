package cause_test

import (
	"math"
	"reflect"
	"slices"
	"strconv"
	"strings"
	"testing"

	"foliot/api"
	"foliot/cause"
	"foliot/flat"
	"foliot/meaning"
	"foliot/sample"
)

func TestErrors(t *testing.T) {
	// 13.2: the error of layer 12, if there is one, with its place, ahead of ErrCause.
	for _, src := range []string{
		"node f() returns (x: int) let x = x; tel",
		"node main() returns (x: int, y: int) let x = x; y = z; tel",
		"node main() returns (x: int, y: int) let x = x; y = 1.5; tel",
		"node main() returns (x: int, y: rat init 0) let x = x; der y = 1; tel",
		"node main() returns (x: int, y: int) let x = x; y = pre y; tel",
		"node main(c: bool) returns (x: int) let x = x; tel",
		"node f() returns (x: int) let x = f(); tel node main() returns (x: int) let x = f(); tel",
	} {
		p := program(t, src)
		_, want, at := flat.Of(p)
		if err, place := cause.Check(p); want == api.OK || err != want || place != at {
			t.Error(src, err, place, want, at)
		}
	}
	for _, p := range []api.Program{{}, {Nodes: []api.Node{{Name: "Main", Pos: 5}}}} {
		_, want, at := flat.Of(p)
		if err, place := cause.Check(p); err == api.OK || err != want || place != at {
			t.Error(p, err, place)
		}
	}
	if err, place := cause.Check(api.Program{Nodes: []api.Node{{Name: "main", Out: []api.Var{{Name: "x", Type: "int"}}, Eqs: []api.Eq{{}}}}}); err != api.ErrArg || place != 0 {
		t.Error(err, place)
	}
}

// row makes a program in which each of so many variables hangs on the next one, and the last one on the first one or on nothing.
func row(n int, round bool) api.Program {
	main := api.Node{Name: "main", Pos: 77}
	for i := range n {
		e := api.Expr{Kind: api.EVar, Name: "x" + strconv.Itoa((i+1)%n)}
		if i == n-1 && !round {
			e = api.Expr{Kind: api.ENum, Name: "1"}
		}
		main.Out = append(main.Out, api.Var{Name: "x" + strconv.Itoa(i), Type: "int"})
		main.Eqs = append(main.Eqs, api.Eq{Kind: api.QDef, Names: []string{"x" + strconv.Itoa(i)}, Args: []api.Expr{e}, Pos: 9 * i})
	}
	return api.Program{Nodes: []api.Node{main}}
}

func TestGreatPrograms(t *testing.T) {
	// R1, 13.2: the heaviest programs are checked; of heavier ones that is told, whatever hangs on what in them.
	most := api.MaxFlat / 3
	for _, n := range []int{1, most, most + 1} {
		for _, round := range []bool{false, true} {
			want, at := api.OK, 0
			switch {
			case n > most:
				want, at = api.ErrBig, 77
			case round:
				want = api.ErrCause
			}
			if err, place := cause.Check(row(n, round)); err != want || place != at {
				t.Error(n, round, err, place)
			}
		}
	}
}

func TestDeepCalls(t *testing.T) {
	// R1: calls may go deep, with resets around each of them; and what the innermost one asks may hang on the outermost one.
	for n := 1; n < 400; n += 66 {
		for _, last := range []string{"1", "0 -> 1", "a"} {
			var l []string
			for i := range n {
				l = append(l, "node f"+strconv.Itoa(i)+"(a: int) returns (b: int) let reset { b = f"+strconv.Itoa(i+1)+"(a); } every a > "+strconv.Itoa(i)+"; tel ")
			}
			all := strings.Join(l, "\n") + "node f" + strconv.Itoa(n) + "(a: int) returns (b: int) let b = " + last + "; tel "
			want := api.ErrCause
			if last == "1" {
				want = api.OK
			}
			checks(t, all+"node main() returns (x: int) let x = f0(x); tel", want)
			checks(t, all+"node main() returns (x: int) let x = f0(1); reset { } every x > 0; tel", api.OK)
		}
	}
}

func TestManyScopes(t *testing.T) {
	// R1: resets within one another, as deep as a source may have them, and much that begins by all of them.
	for _, cond := range []string{"x > 0", "v > 0"} {
		body := "x = " + strings.Repeat("1 -> ", 18) + "1;"
		for range 19 {
			body = "reset { " + body + " } every " + cond + ";"
		}
		want := api.OK
		if cond == "x > 0" {
			want = api.ErrCause
		}
		checks(t, "node main(v: rat) returns (x: int) let "+body+" tel", want)
	}
}

func TestRandomPrograms(t *testing.T) {
	// 13.2, held against a second reading of it; 13.3: where nothing hangs on itself, the flat program goes in an order, and both it and the source do their instants to the end.
	count := map[api.Errno]int{}
	for seed := range int64(6000) {
		p := sample.Begun(dice(seed).Intn, []int{10, 20, 40, 80}[seed%4])
		want := api.OK
		if !meaning.Causal(p) {
			want = api.ErrCause
		}
		err, place := cause.Check(p)
		count[err]++
		if err != want || place != 0 {
			t.Fatalf("%s: got %v, %d", sourceOf(p), err, place)
		}
		if err == api.OK && seed%4 < 3 {
			isTold(t, p)
		}
	}
	if count[api.OK] < 1000 || count[api.ErrCause] < 1000 {
		t.Error(count)
	}
}

// isTold asks that all of a program can be told at each instant, one by one.
func isTold(t *testing.T, p api.Program) {
	t.Helper()
	f, _, _ := flat.Of(p)
	l, err := cause.Order(f)
	if err != api.OK || len(l) != len(f.Names) || len(cause.Cycle(f)) != 0 {
		t.Fatalf("%s: got %v, %v", sourceOf(p), l, err)
	}
	for v, needs := range cause.Needs(f) {
		for _, u := range needs {
			if slices.Index(l, u) >= slices.Index(l, v) {
				t.Fatalf("%s: %d needs %d: %v", sourceOf(p), v, u, l)
			}
		}
	}
	s := some(f.Ins)
	got, well := meaning.Flat(f, s, 12)
	want, ok := meaning.Source(p, s, 12)
	if !well || !ok || !reflect.DeepEqual(got, want) {
		t.Fatalf("%s: got %v, %v", sourceOf(p), got, want)
	}
}

func TestCausalPrograms(t *testing.T) {
	// 13.2: of programs that are made so that nothing hangs on itself.
	for seed := range int64(1500) {
		p := sample.Causal(dice(seed).Intn, 10+int(seed%90))
		if err, place := cause.Check(p); err != api.OK || place != 0 {
			t.Fatalf("%s: got %v, %d", sourceOf(p), err, place)
		}
	}
}

func TestAnyPrograms(t *testing.T) {
	// 13.2: of programs that layer 12 does not take, its error.
	count := map[bool]int{}
	for seed := range int64(2000) {
		p := []func(func(int) int, int) api.Program{sample.Program, sample.Kinded}[seed%2](dice(seed).Intn, 30)
		_, want, at := flat.Of(p)
		err, place := cause.Check(p)
		if want != api.OK && (err != want || place != at) || want == api.OK && err != api.OK && (err != api.ErrCause || place != 0) {
			t.Fatalf("%s: got %v, %d, want %v, %d", sourceOf(p), err, place, want, at)
		}
		count[want == api.OK]++
	}
	if count[true] < 100 || count[false] < 100 {
		t.Error(count)
	}
}

func TestNothingIsChanged(t *testing.T) {
	// R4, R5: the same programs, made twice, of which one is asked twice.
	for seed := range int64(800) {
		p, q := sample.Begun(dice(seed).Intn, 60), sample.Begun(dice(seed).Intn, 60)
		err, place := cause.Check(p)
		again, at := cause.Check(p)
		if !reflect.DeepEqual(p, q) || again != err || at != place {
			t.Fatal(seed)
		}
		f, _, _ := flat.Of(p)
		g, _, _ := flat.Of(q)
		needs := cause.Needs(f)
		order, _ := cause.Order(f)
		cycle := cause.Cycle(f)
		if !reflect.DeepEqual(f, g) || !reflect.DeepEqual(needs, cause.Needs(g)) {
			t.Fatal(seed)
		}
		second, _ := cause.Order(g)
		if !slices.Equal(order, second) || !slices.Equal(cycle, cause.Cycle(g)) {
			t.Fatal(seed)
		}
	}
}

func TestBehindEnds(t *testing.T) {
	// R4: what lies behind the ends of a program's lists is neither read nor written to.
	make := func() api.Program {
		p := program(t, "node main(v: rat) returns (x: int, y: int) let reset { x = 0 -> 1; y = x; x = y; } every v > 0; x = x; tel node f() returns (x: int) let x = x; tel")
		p.Nodes = p.Nodes[:1]
		p.Nodes[0].Eqs = p.Nodes[0].Eqs[:1]
		p.Nodes[0].Eqs[0].Blocks[0] = p.Nodes[0].Eqs[0].Blocks[0][:2]
		return p
	}
	p := make()
	if err, place := cause.Check(p); err != api.OK || place != 0 {
		t.Error(err, place)
	}
	q := make()
	whole := func(p api.Program) []any {
		n := p.Nodes[:2]
		return []any{n, n[0].Eqs[:2], n[0].Eqs[0].Blocks[0][:3]}
	}
	if !reflect.DeepEqual(whole(p), whole(q)) {
		t.Error(p)
	}
}

func TestOddTrees(t *testing.T) {
	// R1: of trees that are not right: ErrArg.
	for _, change := range []func(e *api.Expr){
		func(e *api.Expr) { e.Kind = 0 },
		func(e *api.Expr) { e.Kind = math.MinInt },
		func(e *api.Expr) { e.Args = nil },
		func(e *api.Expr) { e.Name = "else" },
		func(e *api.Expr) { e.Args = append(e.Args, api.Expr{}) },
		func(e *api.Expr) { e.Args[1] = api.Expr{Kind: api.ETuple} },
	} {
		p := program(t, "node main() returns (x: int) let x = 1 -> x; tel")
		change(&p.Nodes[0].Eqs[0].Args[0])
		if err, place := cause.Check(p); err != api.ErrArg || place != 0 {
			t.Error(p, err, place)
		}
	}
}
