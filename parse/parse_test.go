package parse_test

import (
	"math/rand"
	"reflect"
	"strings"
	"testing"

	"foliot/api"
	"foliot/lex"
	"foliot/parse"
)

// refuses asks that a source is refused so, and that nothing is told beside it.
func refuses(t *testing.T, src string, want api.Errno, place int) {
	t.Helper()
	p, err, n := parse.Parse([]byte(src))
	if err != want || n != place || p.Enums != nil || p.Nodes != nil {
		t.Errorf("%s: %v at %d, wanted %v at %d; %v", short(src), err, n, want, place, p)
	}
}

func refusesExpr(t *testing.T, src string, want api.Errno, place int) {
	t.Helper()
	e, err, n := parse.ParseExpr([]byte(src))
	if err != want || n != place || !reflect.DeepEqual(e, api.Expr{}) {
		t.Errorf("%s: %v at %d, wanted %v at %d; %v", short(src), err, n, want, place, e)
	}
}

func takes(t *testing.T, src string) api.Program {
	t.Helper()
	p, err, n := parse.Parse([]byte(src))
	if err != api.OK || n != 0 {
		t.Errorf("%s: %v at %d", short(src), err, n)
	}
	return p
}

func takesExpr(t *testing.T, src string) api.Expr {
	t.Helper()
	e, err, n := parse.ParseExpr([]byte(src))
	if err != api.OK || n != 0 {
		t.Errorf("%s: %v at %d", short(src), err, n)
	}
	return e
}

func short(src string) string {
	if len(src) > 200 {
		return src[:100] + " .. " + src[len(src)-100:]
	}
	return src
}

// body is a node's source around equations, and where they begin in it.
func body(eqs string) (string, int) {
	const head = "node f() returns (x: rat) let "
	return head + eqs + " tel", len(head)
}

func TestProgramWithItsPlaces(t *testing.T) {
	// 5.1
	num := func(s string, pos int) api.Expr { return api.Expr{Kind: api.ENum, Name: s, Pos: pos} }
	x := func(pos int) api.Expr { return api.Expr{Kind: api.EVar, Name: "x", Pos: pos} }
	cases := map[string]api.Program{
		"": {}, " -- nothing": {},
		"type t = {A,B};type u={C};": {Enums: []api.Enum{{Name: "t", Ctors: []string{"A", "B"}, Pos: 0}, {Name: "u", Ctors: []string{"C"}, Pos: 15}}},
		"node f() returns (x: rat) let tel type t = {A};": {
			Enums: []api.Enum{{Name: "t", Ctors: []string{"A"}, Pos: 34}},
			Nodes: []api.Node{{Name: "f", Out: []api.Var{{Name: "x", Type: "rat", Pos: 18}}}}},
		" hybrid f(a:bool,b:t)returns(x:int init -2,y:t init A)var z:bool init true;w:rat init 1.5;let tel": {
			Nodes: []api.Node{{Name: "f", Hybrid: true, Pos: 1,
				In: []api.Var{{Name: "a", Type: "bool", Pos: 10}, {Name: "b", Type: "t", Pos: 17}},
				Out: []api.Var{{Name: "x", Type: "int", Init: []api.Expr{{Kind: api.EUn, Name: "-", Args: []api.Expr{num("2", 41)}, Pos: 40}}, Pos: 29},
					{Name: "y", Type: "t", Init: []api.Expr{{Kind: api.ECtor, Name: "A", Pos: 52}}, Pos: 43}},
				Local: []api.Var{{Name: "z", Type: "bool", Init: []api.Expr{{Kind: api.EBool, Name: "true", Pos: 70}}, Pos: 58},
					{Name: "w", Type: "rat", Init: []api.Expr{num("1.5", 86)}, Pos: 75}}}}},
	}
	eqs := map[string]api.Eq{
		"x=1":                              {Kind: api.QDef, Names: []string{"x"}, Args: []api.Expr{num("1", 2)}},
		"(x,y,z)=x":                        {Kind: api.QDef, Names: []string{"x", "y", "z"}, Args: []api.Expr{x(8)}},
		"der x=1":                          {Kind: api.QDer, Names: []string{"x"}, Args: []api.Expr{num("1", 6)}},
		"der x=1 init 2":                   {Kind: api.QDer, Names: []string{"x"}, Args: []api.Expr{num("1", 6)}, Init: []api.Expr{num("2", 13)}},
		"der x=1 reset 3 when x":           {Kind: api.QDer, Names: []string{"x"}, Args: []api.Expr{num("1", 6)}, Again: []api.Expr{num("3", 14), x(21)}},
		"der x=1 init 2 reset 3 when x":    {Kind: api.QDer, Names: []string{"x"}, Args: []api.Expr{num("1", 6)}, Init: []api.Expr{num("2", 13)}, Again: []api.Expr{num("3", 21), x(28)}},
		"reset { } every x":                {Kind: api.QReset, Args: []api.Expr{x(16)}, Blocks: [][]api.Eq{nil}},
		"present x then { } else { x=1; }": {Kind: api.QPresent, Args: []api.Expr{x(8)}, Blocks: [][]api.Eq{nil, {{Kind: api.QDef, Names: []string{"x"}, Args: []api.Expr{num("1", 28)}, Pos: 26}}}},
		"automaton state A { } end":        {Kind: api.QAuto, States: []api.State{{Name: "A", Pos: 10}}},
		"automaton state A{x=1;}until x then B until x continue A state B{}end": {Kind: api.QAuto, States: []api.State{
			{Name: "A", Pos: 10, Eqs: []api.Eq{{Kind: api.QDef, Names: []string{"x"}, Args: []api.Expr{num("1", 20)}, Pos: 18}},
				Trans: []api.Trans{{Cond: x(29), To: "B", Pos: 23}, {Cond: x(44), To: "A", Keep: true, Pos: 38}}},
			{Name: "B", Pos: 57}}},
	}
	for src, want := range cases {
		if p := takes(t, src); !reflect.DeepEqual(p, want) {
			t.Errorf("%s:\n%v\n%v", src, p, want)
		}
	}
	for src, want := range eqs {
		whole, at := body(strings.Repeat(" ", 100) + src + ";")
		p := takes(t, whole)
		if len(p.Nodes) == 1 && len(p.Nodes[0].Eqs) == 1 {
			got := p.Nodes[0].Eqs[0]
			moveEq(&got, -at-100)
			if !reflect.DeepEqual(got, want) {
				t.Errorf("%s:\n%v\n%v", src, got, want)
			}
		}
	}
}

// move puts an expression's places that many bytes on.
func move(e *api.Expr, by int) {
	e.Pos += by
	for i := range e.Args {
		move(&e.Args[i], by)
	}
}

func moveEq(q *api.Eq, by int) {
	q.Pos += by
	for _, l := range [][]api.Expr{q.Args, q.Init, q.Again} {
		for i := range l {
			move(&l[i], by)
		}
	}
	for _, block := range q.Blocks {
		for i := range block {
			moveEq(&block[i], by)
		}
	}
	for i := range q.States {
		s := &q.States[i]
		s.Pos += by
		for j := range s.Eqs {
			moveEq(&s.Eqs[j], by)
		}
		for j := range s.Trans {
			s.Trans[j].Pos += by
			move(&s.Trans[j].Cond, by)
		}
	}
}

func TestProgramsOfTheGrammar(t *testing.T) {
	// 5.1: each source that the grammar says is taken, as the tree that it says.
	for seed := range int64(3000) {
		src, want := shallow(seed, int(seed%200))
		p, err, n := parse.Parse([]byte(src))
		if err != api.OK || n != 0 || !reflect.DeepEqual(p, want) {
			t.Fatalf("%s: %v %d\n%v\n%v", src, err, n, p, want)
		}
	}
}

func TestWantedPlaces(t *testing.T) {
	// 5.1: by hand.
	for src, place := range map[string]int{
		"node": 4, "x": 0, ";": 0, "Type": 0, "tel": 0, "type": 4, "type T": 5, "type t {": 7, "type t = ": 9, "type t = {}": 10, "type t = {a}": 10,
		"type t = {A,}": 12, "type t = {A B": 12, "type t = {A}": 12, "type t = {A};;": 13, "type type": 5, "type t = {true": 10,
		"hybrid node": 7, "node F": 5, "node f)": 6, "node f(x)": 8, "node f(x:)": 9, "node f(x:T)": 9, "node f(x:not": 9, "node f(x:rat,)": 13, "node f(,": 7,
		"node f(x:rat init 1)": 13, "node f(x:rat;": 12, "node f() let": 9, "node f() returns x": 17, "node f() returns ()": 18,
		"node f() returns (x:rat init)": 28, "node f() returns (x:rat init x": 29, "node f() returns (x:rat init not": 29, "node f() returns (x:rat init +1": 29,
		"node f() returns (x:rat init -x": 30, "node f() returns (x:rat init --": 31, "node f() returns (x:rat init - -1": 31, "node f() returns (x:rat init 1+": 30, "node f() returns (x:rat init (": 29,
		"node f() returns (x:rat) tel": 25, "node f() returns (x:rat) var let": 29, "node f() returns (x:rat) var x:rat let": 35, "node f() returns (x:rat) var x:rat, y:rat": 34,
		"node f() returns (x:rat) let": 28, "node f() returns (x:rat) let tel tel": 33, "node f() returns (x:rat) let tel;": 32, "node f() returns (x:rat) let ; tel": 29,
	} {
		refuses(t, src, api.ErrWant, place)
	}
	for eqs, place := range map[string]int{
		"1": 0, "A": 0, "x": 2, "x;": 1, "x=;": 2, "x==1": 1, "x=1": 4, "x=1 y=2": 4, "x=1;;": 4, "x=1,": 3, "x:": 1, "(": 2, "()": 1, "(x)=": 2, "(x,)": 3, "(x,1)": 3, "(x,(y,z))": 3, "(x,y=": 4, "((x,y))": 1,
		"der": 4, "der (x,y)": 4, "der x init": 6, "der x=init": 6, "der x=1 reset 1;": 15, "der x=1 when": 8, "der x=1 init 1 init": 15, "der x=1 reset 1 when 1 init 2": 23, "der x=1 reset 1 when 1 when": 23,
		"reset x": 6, "reset {}": 9, "reset {};": 8, "reset {} every;": 14, "reset { x=1 }": 12, "reset { until": 8, "reset { tel": 8,
		"present {": 8, "present x {": 10, "present x then x": 15, "present x then {} ;": 18, "present x then {} else;": 22, "present x then {} else {}": 26,
		"automaton end": 10, "automaton state a": 16, "automaton state A x": 18, "automaton state A {};": 20, "automaton state A {} then": 21, "automaton state A {} until then": 27,
		"automaton state A {} until x A": 29, "automaton state A {} until x then b": 34, "automaton state A {} until x continue;": 37, "automaton state A {} state A {} x": 32, "automaton state A {} end": 25,
		"else": 0, "until": 0, "if": 0, "true=1": 0, "last=1": 0,
	} {
		src, at := body(eqs)
		refuses(t, src, api.ErrWant, at+place)
	}
}

func TestWantedPlacesOfTheGrammar(t *testing.T) {
	// 5.1: of sources that are spoilt somewhere, against a reader of the grammar's own text.
	g := readGrammar()
	counts := map[api.Errno]int{}
	for seed := range int64(2500) {
		r := rand.New(rand.NewSource(seed))
		whole, _ := shallow(seed, r.Intn(60))
		texts := spoilt(r, tokensOf(whole))
		src := strings.Join(texts, " ")
		tokens := tokensOf(src)
		p, err, n := parse.Parse([]byte(src))
		counts[err]++
		if at := g.refused("program", tokens); at < 0 {
			if err != api.OK {
				t.Fatalf("%s: %v at %d", src, err, n)
			}
		} else if err != api.ErrWant || n != tokens[at].Pos || len(p.Nodes)+len(p.Enums) > 0 {
			t.Fatalf("%s: %v at %d, not %d", src, err, n, tokens[at].Pos)
		}
	}
	if counts[api.OK] < 50 || counts[api.ErrWant] < 1000 {
		t.Error(counts)
	}
}

// spoilt tells the texts of tokens, with some more, some less, some others.
func spoilt(r *rand.Rand, tokens []api.Token) []string {
	others := strings.Fields("( ) { } , ; : = -> | + - * / < <= > >= == != x A 1 type node hybrid returns var let tel if then else pre fby last der init reset when every automaton state until continue present end true false and or not up bool int rat floor div mod")
	var out []string
	for _, t := range tokens {
		out = append(out, t.Text)
	}
	for range 1 + r.Intn(2) {
		at := r.Intn(len(out))
		switch r.Intn(4) {
		case 0:
			out = append(out[:at:at], out[at+1:]...)
		case 1:
			out = append(out[:at:at], append([]string{others[r.Intn(len(others))]}, out[at:]...)...)
		case 2:
			out[at] = others[r.Intn(len(others))]
		case 3:
			other := r.Intn(len(out))
			out[at], out[other] = out[other], out[at]
		}
		if len(out) == 0 {
			return nil
		}
	}
	return out
}

func TestErrorsOfTheLexer(t *testing.T) {
	// 5.1, 5.2: as they are told there, and ahead of all that the parser could say.
	long := strings.Repeat(" ", api.MaxSource+1)
	for _, asks := range []func(*testing.T, string, api.Errno, int){refuses, refusesExpr} {
		asks(t, ") ?", api.ErrByte, 2)
		asks(t, strings.Repeat("(", 161)+" \x00", api.ErrByte, 162)
		asks(t, "1"+strings.Repeat("0", api.MaxDigits)+" 1.", api.ErrByte, api.MaxDigits+3)
		asks(t, long, api.ErrLong, api.MaxSource)
		asks(t, "?"+long, api.ErrLong, api.MaxSource)
	}
	refuses(t, long[1:], api.OK, 0)
	refusesExpr(t, long[1:], api.ErrWant, api.MaxSource)
	takesExpr(t, long[2:]+"x")
}

func TestLongNumbers(t *testing.T) {
	// 5.1: a NUM that is wanted, and of which a part is too long.
	most, more := strings.Repeat("0", api.MaxDigits), strings.Repeat("9", api.MaxDigits+1)
	for _, num := range []string{most, most + "." + most, "1." + most} {
		takesExpr(t, num)
		takes(t, "node f() returns (x: rat init "+num+", y: rat init -"+num+") let tel")
	}
	for _, num := range []string{more, more + ".1", "1." + more, more + "." + more, "0" + most, "0.0" + most} {
		refusesExpr(t, num, api.ErrLong, 0)
		refusesExpr(t, "x + - "+num+" )", api.ErrLong, 6)
		refusesExpr(t, "x "+num, api.ErrWant, 2)
		refusesExpr(t, num+" "+num, api.ErrLong, 0)
		refusesExpr(t, "last "+num, api.ErrWant, 5)
		refuses(t, num, api.ErrWant, 0)
		refuses(t, "node f() returns (x: rat init "+num+") let tel", api.ErrLong, 30)
		refuses(t, "node f() returns (x: rat init - "+num+") let tel", api.ErrLong, 32)
		src, at := body("der x = 1 init " + num)
		refuses(t, src, api.ErrLong, at+15)
		refusesExpr(t, strings.Repeat("(", api.MaxNest-1)+num, api.ErrLong, api.MaxNest-1)
		refusesExpr(t, strings.Repeat("(", api.MaxNest)+num, api.ErrDeep, api.MaxNest)
	}
}

func TestMemoryOfParse(t *testing.T) {
	// R4, R5: a source is neither changed nor kept, and no two lists are one.
	for seed := range int64(200) {
		src, want := shallow(seed, 100)
		b := make([]byte, len(src), len(src)+10)
		copy(b, src)
		more := b[:len(src)+10]
		p, _, _ := parse.Parse(b)
		if string(b) != src || string(more[len(b):]) != strings.Repeat("\x00", 10) {
			t.Fatal("a source was changed")
		}
		for i := range more {
			more[i] = '?'
		}
		if !reflect.DeepEqual(p, want) {
			t.Fatal("a source was kept")
		}
		for i := range p.Nodes {
			for j := range p.Nodes[i].Eqs {
				grow(&p.Nodes[i].Eqs[j])
			}
		}
		if !reflect.DeepEqual(p, want) {
			t.Fatal("two lists share what lies behind their ends")
		}
		again, _, _ := parse.Parse([]byte(src))
		if !reflect.DeepEqual(again, want) {
			t.Fatal("an answer was kept")
		}
	}
}

// grow writes behind each list's end.
func grow(q *api.Eq) {
	_ = append(q.Names, "?")
	for _, l := range [][]api.Expr{q.Args, q.Init, q.Again} {
		growExprs(l)
	}
	_ = append(q.Blocks, []api.Eq{{Kind: -1}})
	for _, block := range q.Blocks {
		_ = append(block, api.Eq{Kind: -1})
		for i := range block {
			grow(&block[i])
		}
	}
	_ = append(q.States, api.State{Name: "?"})
	for _, s := range q.States {
		_ = append(s.Eqs, api.Eq{Kind: -1})
		_ = append(s.Trans, api.Trans{To: "?"})
		for i := range s.Eqs {
			grow(&s.Eqs[i])
		}
	}
}

func growExprs(l []api.Expr) {
	_ = append(l, api.Expr{Kind: -1})
	for _, e := range l {
		growExprs(e.Args)
	}
}

func TestTokensCount(t *testing.T) {
	// 5.3: blanks do not count.
	for seed := range int64(500) {
		src, _ := shallow(seed, 150)
		p := takes(t, string(lex.Spell(tokensOf(src))))
		q := takes(t, src)
		flat(&p)
		flat(&q)
		if !reflect.DeepEqual(p, q) {
			t.Fatal(src)
		}
	}
}

// flat puts all places to 0.
func flat(p *api.Program) {
	for i := range p.Enums {
		p.Enums[i].Pos = 0
	}
	for i := range p.Nodes {
		n := &p.Nodes[i]
		n.Pos = 0
		for _, l := range [][]api.Var{n.In, n.Out, n.Local} {
			for j := range l {
				l[j].Pos = 0
				for k := range l[j].Init {
					flatExpr(&l[j].Init[k])
				}
			}
		}
		for j := range n.Eqs {
			flatEq(&n.Eqs[j])
		}
	}
}

func flatExpr(e *api.Expr) {
	e.Pos = 0
	for i := range e.Args {
		flatExpr(&e.Args[i])
	}
}

func flatEq(q *api.Eq) {
	q.Pos = 0
	for _, l := range [][]api.Expr{q.Args, q.Init, q.Again} {
		for i := range l {
			flatExpr(&l[i])
		}
	}
	for _, block := range q.Blocks {
		for i := range block {
			flatEq(&block[i])
		}
	}
	for i := range q.States {
		s := &q.States[i]
		s.Pos = 0
		for j := range s.Eqs {
			flatEq(&s.Eqs[j])
		}
		for j := range s.Trans {
			s.Trans[j].Pos = 0
			flatExpr(&s.Trans[j].Cond)
		}
	}
}
