package parse_test

import (
	"strings"
	"testing"

	"foliot/api"
	"foliot/parse"
)

func times(n int, text string) string { return strings.Repeat(text, n) }

// deepExpr is the source of an expression that is so deep.
func deepExpr(n int) string { return times(n-1, "- ") + "x" }

func TestDepth(t *testing.T) {
	// Depth, EqDepth: of what is parsed and of what is put together otherwise.
	leaf := api.Expr{Kind: api.EVar, Name: "x"}
	of := func(args ...api.Expr) api.Expr { return api.Expr{Kind: api.ETuple, Args: args} }
	for want, l := range map[int][]api.Expr{1: {{}, leaf, of(), {Kind: -7}}, 2: {of(leaf), of(leaf, leaf), {Args: make([]api.Expr, 5)}}, 3: {of(leaf, of(leaf)), of(of(leaf), leaf), of(of(), of(leaf), leaf)}} {
		for _, e := range l {
			if parse.Depth(e) != want {
				t.Errorf("%v: %d, not %d", e, parse.Depth(e), want)
			}
		}
	}
	two := of(leaf)
	in := func(q ...api.Eq) []api.Eq { return q }
	eq := api.Eq{Kind: api.QDef, Args: []api.Expr{leaf}}
	for want, l := range map[int][]api.Eq{
		1: {{}, {Kind: api.QAuto}, {Kind: api.QAuto, States: make([]api.State, 2)}, {Blocks: make([][]api.Eq, 3)}},
		2: {eq, {Init: []api.Expr{leaf}}, {Again: []api.Expr{leaf, leaf}}, {Blocks: [][]api.Eq{nil, in(api.Eq{})}}, {States: []api.State{{Eqs: in(api.Eq{})}}}, {States: []api.State{{}, {Trans: make([]api.Trans, 1)}}}},
		3: {{Args: []api.Expr{leaf, two}}, {Kind: api.QDer, Args: []api.Expr{leaf}, Init: []api.Expr{two}}, {Args: []api.Expr{leaf}, Again: []api.Expr{leaf, two}}, {Kind: api.QReset, Args: []api.Expr{leaf}, Blocks: [][]api.Eq{in(eq)}},
			{Blocks: [][]api.Eq{nil, in(api.Eq{}, eq)}}, {States: []api.State{{}, {Eqs: in(eq)}}}, {States: []api.State{{Trans: []api.Trans{{Cond: leaf}, {Cond: two}}}, {Eqs: in(api.Eq{})}}}},
	} {
		for _, q := range l {
			if parse.EqDepth(q) != want {
				t.Errorf("%v: %d, not %d", q, parse.EqDepth(q), want)
			}
		}
	}
	deep, deepEq := leaf, eq
	for range 9990 {
		deep, deepEq = of(deep), api.Eq{Kind: api.QReset, Blocks: [][]api.Eq{in(deepEq)}}
	}
	if parse.Depth(deep) != 9991 || parse.EqDepth(deepEq) != 9992 {
		t.Error(parse.Depth(deep), parse.EqDepth(deepEq))
	}
	for seed := range int64(500) {
		w := newWriter(seed, 100)
		for _, n := range w.program().Nodes {
			for _, q := range n.Eqs {
				if parse.EqDepth(q) != eqDepth(q) {
					t.Fatal(q)
				}
			}
		}
	}
}

func TestDeepExpressions(t *testing.T) {
	// 5.1, 5.2: MaxDepth is allowed, one more is told at its Pos.
	most := api.MaxDepth
	for _, c := range []struct {
		src   func(n int) string // of an expression so deep
		place int                // of what has one level too many
	}{
		{deepExpr, 0},
		{func(n int) string { return "x" + times(n-1, " + x") }, 4*most - 2},
		{func(n int) string { return "x" + times(n-1, " and x") }, 6*most - 4},
		{func(n int) string { return times(n-1, "x -> ") + "x" }, 2},
		{func(n int) string { return times(n-1, "x fby ") + "x" }, 2},
		{func(n int) string { return times(n-1, "f(") + "x" + times(n-1, ")") }, 0},
		{func(n int) string { return times(n-1, "up(") + "x" + times(n-1, ")") }, 0},
		{func(n int) string { return times(n-1, "floor(") + "x" + times(n-1, ")") }, 0},
		{func(n int) string { return times(n-1, "(x, ") + "x" + times(n-1, ")") }, 0},
		{func(n int) string { return times(n-1, "if a then b else ") + "x" }, 0},
		{func(n int) string { return times(n-1, "if ") + "x" + times(n-1, " then b else c") }, 0},
		{func(n int) string { return "(" + deepExpr(n) + ")" }, 1},
		{func(n int) string { return "(((" + deepExpr(n-1) + "))) < y" }, 7 + len(deepExpr(most))},
		{func(n int) string { return "y < " + deepExpr(n-1) }, 2},
		{func(n int) string { return "f(x, " + deepExpr(n-1) + ", y)" }, 0},
	} {
		if e := takesExpr(t, c.src(most)); parse.Depth(e) != most {
			t.Error(c.src(most), parse.Depth(e))
		}
		refusesExpr(t, c.src(most+1), api.ErrDeep, c.place)
		// as a condition: what is whole is told ahead of a token that is not wanted
		refusesExpr(t, c.src(most)+" )", api.ErrWant, len(c.src(most))+1)
		refusesExpr(t, c.src(most+1)+" )", api.ErrDeep, c.place)
		src, at := body("present " + c.src(most+1))
		refuses(t, src, api.ErrDeep, at+8+c.place)
	}
	// of the ones that are too deep the one that is whole first
	refusesExpr(t, deepExpr(most+5), api.ErrDeep, 8)
	refusesExpr(t, "x"+times(most+5, " + x"), api.ErrDeep, 4*most-2)
	refusesExpr(t, "("+deepExpr(most+1)+", "+deepExpr(most+1)+")", api.ErrDeep, 1)
	// what is not yet whole is not yet too deep
	refusesExpr(t, "x"+times(most, " + x")+" * )", api.ErrWant, 1+4*most+3)
	refusesExpr(t, "f("+deepExpr(most), api.ErrWant, len("f("+deepExpr(most)))
	refusesExpr(t, "f("+deepExpr(most)+")", api.ErrDeep, 0)
	refusesExpr(t, "("+deepExpr(most)+", x;", api.ErrWant, len("("+deepExpr(most)+", x"))
	refusesExpr(t, "x -> "+deepExpr(most)+" + 1"+times(api.MaxDigits, "0"), api.ErrLong, len("x -> "+deepExpr(most)+" + "))
	refusesExpr(t, "x -> "+deepExpr(most)+" 1"+times(api.MaxDigits, "0"), api.ErrDeep, 2)
}

func TestDeepEquations(t *testing.T) {
	// 5.1: an equation is one deeper than what is within it.
	e := deepExpr
	for _, eq := range []func(n int) string{ // the source of an equation so deep
		func(n int) string { return "x = " + e(n-1) },
		func(n int) string { return "(x, y) = " + e(n-1) },
		func(n int) string { return "der x = " + e(n-1) + " init 1" },
		func(n int) string { return "der x = 1 init " + e(n-1) },
		func(n int) string { return "der x = 1 reset " + e(n-1) + " when x" },
		func(n int) string { return "der x = 1 reset 1 when " + e(n-1) },
		func(n int) string { return "reset { } every " + e(n-1) },
		func(n int) string { return "reset { x = " + e(n-2) + "; } every x" },
		func(n int) string { return "present " + e(n-1) + " then { } else { }" },
		func(n int) string { return "present x then { x = " + e(n-2) + "; } else { }" },
		func(n int) string { return "present x then { } else { y = 1; x = " + e(n-2) + "; }" },
		func(n int) string { return "automaton state A { x = " + e(n-2) + "; } end" },
		func(n int) string { return "automaton state A { } state B { x = " + e(n-2) + "; y = 1; } end" },
		func(n int) string { return "automaton state A { } until x then A until " + e(n-1) + " then A end" },
		func(n int) string { return times(n-2, "reset { ") + "x = y" + times(n-2, "; } every x") },
		func(n int) string {
			return times(n-1, "automaton state A { ") + "automaton state B { } end" + times(n-1, "; } end")
		},
	} {
		src, at := body("y = 1; " + eq(api.MaxDepth) + ";")
		if p := takes(t, src); len(p.Nodes) == 1 && parse.EqDepth(p.Nodes[0].Eqs[1]) != api.MaxDepth {
			t.Error(short(src), parse.EqDepth(p.Nodes[0].Eqs[1]))
		}
		src, at = body("y = 1; " + eq(api.MaxDepth+1))
		refuses(t, src, api.ErrDeep, at+7) // ahead of the semicolon that is wanted
		refuses(t, strings.TrimSuffix(src, "tel")+"; z = = 1", api.ErrDeep, at+7)
	}
	for _, c := range []struct {
		eqs   string
		err   api.Errno
		ahead string // what stands ahead of the place
	}{
		{times(4, "reset { ") + "x = " + e(api.MaxDepth) + "; ", api.ErrDeep, times(4, "reset { ")},
		{"reset { x = " + e(api.MaxDepth-1) + "; } x", api.ErrWant, "reset { x = " + e(api.MaxDepth-1) + "; } "},
		{times(api.MaxDepth, "reset { ") + "x = 1; } every x; } x", api.ErrWant, times(api.MaxDepth, "reset { ") + "x = 1; } every x; } "},
		{times(api.MaxDepth, "reset { ") + "x = 1" + times(api.MaxDepth, "; } every x"), api.ErrDeep, "reset { "},
	} {
		src, at := body(c.eqs)
		refuses(t, src, c.err, at+len(c.ahead))
	}
}

func TestManyOpen(t *testing.T) {
	// 5.1, 5.2: MaxNest are allowed, one more is told at the next token's place; brackets alone make nothing deeper.
	most := api.MaxNest
	e := takesExpr(t, times(most-1, "(")+"x"+times(most-1, ")"))
	if parse.Depth(e) != 1 || e.Pos != most-1 {
		t.Error(e)
	}
	refusesExpr(t, times(most, "(")+"x"+times(most, ")"), api.ErrDeep, most)
	for _, c := range []struct {
		one   string // what opens one thing
		wrong string // a token with which nothing goes on there
		at    int    // where the first thing is opened
	}{
		{"(", ")", 1}, {"f(", ";", 2}, {"up(", ")", 3}, {"floor(", ")", 6}, {"rat(", ",", 4}, {"if ", "then", 3}, {"x -> ", "->", 5}, {"x fby ", "or", 6}, {"- ", "*", 2}, {"not ", "and", 4}, {"pre ", ")", 4},
		{"x + (", "+", 5}, {"(x, ", ",", 1}, {"f(x, ", ")", 2}, {"if x then ", "else", 3}, {"if x then x else ", "->", 3},
	} {
		src := times(most-1, c.one)
		refusesExpr(t, src+c.wrong, api.ErrWant, len(src))
		refusesExpr(t, src+c.one+c.wrong, api.ErrDeep, len(src)+c.at)
		refusesExpr(t, src+c.one, api.ErrDeep, len(src)+c.at)
		refusesExpr(t, src+c.one+"x", api.ErrDeep, len(src)+c.at)
		refusesExpr(t, src+c.one[:c.at]+"\n", api.ErrDeep, len(src)+c.at+1)
	}
	// what is closed is no more open
	takesExpr(t, "f("+times(2*most, "(x -> y fby - z), ")+"x)")
	takesExpr(t, times(most-3, "(")+"f("+times(most, "-x, ")+"x)"+times(most-3, ")"))
	takesExpr(t, times(most-2, "(")+"- x + - x -> y"+times(most-2, ")"))
	refusesExpr(t, times(most-2, "(")+"- x + - - x -> y", api.ErrDeep, most+8)
	refusesExpr(t, times(most-2, "(")+"x -> y -> z", api.ErrDeep, most+8)
	refusesExpr(t, times(most-2, "(")+"x fby y fby z", api.ErrDeep, most+10)
	takesExpr(t, times(most-1, "(")+"f()"+times(most-1, ")"))
	refusesExpr(t, times(most-1, "(")+"f(x)", api.ErrDeep, most+1)
	refusesExpr(t, times(most-1, "(")+"f(;", api.ErrDeep, most+1)
}

func TestManyOpenEquations(t *testing.T) {
	// 5.1: eqs are open too, be there none; a bracket of a pattern opens nothing.
	most := api.MaxNest
	for _, c := range []struct {
		one   string // what opens one thing
		wrong string // a token with which nothing goes on there
		at    int    // where the first thing is opened
	}{
		{"reset { ", "every", 8}, {"present x then { ", "tel", 8}, {"present x then { } else { ", "else", 8}, {"automaton state A { ", "end", 20}, {"automaton state A { } until x then B state B { ", "until", 20},
	} {
		src, at := body("")
		src = src[:at] + times(most-1, c.one)
		refuses(t, src+c.wrong, api.ErrWant, len(src))
		refuses(t, src+c.one+c.wrong, api.ErrDeep, len(src)+c.at)
		refuses(t, src+"x = 1", api.ErrDeep, len(src)+4)
		refuses(t, src+"(x, y) = 1", api.ErrDeep, len(src)+9)
		refuses(t, src+"der x = 1", api.ErrDeep, len(src)+8)
		refuses(t, src+"reset { }", api.ErrDeep, len(src)+8)
		refuses(t, src+"present x", api.ErrDeep, len(src)+8)
		refuses(t, src+"automaton state A { } end", api.ErrDeep, len(src)+20)
	}
	src, at := body(times(most-2, "reset { ") + "x = -")
	refuses(t, src, api.ErrDeep, at+8*(most-2)+6)
	src, at = body("x = " + times(most-2, "(") + "x" + times(most-2, ")") + ";")
	takes(t, src)
	src, at = body("x = " + times(most-1, "(") + "x")
	refuses(t, src, api.ErrDeep, at+4+most-1)
	src, at = body("reset { x = " + times(most-2, "(") + "x")
	refuses(t, src, api.ErrDeep, at+12+most-2)
	src, _ = body("reset { } every " + times(most-2, "(") + "x" + times(most-2, ")") + ";")
	takes(t, src)
	src, _ = body("automaton state A { } until " + times(most-2, "(") + "x" + times(most-2, ")") + " then A end;")
	takes(t, src)
	src, at = body("automaton state A { } until " + times(most-1, "(") + "x")
	refuses(t, src, api.ErrDeep, at+28+most-1)
}

func TestWhatComesFirst(t *testing.T) {
	// 5.1: as tokens are read.
	long := times(api.MaxDigits+1, "1")
	for _, c := range []struct {
		ahead, behind string // of the place
		err           api.Errno
	}{
		{"x ", ") " + long + times(200, "("), api.ErrWant},
		{"", long + " ) " + times(200, "("), api.ErrLong},
		{times(api.MaxNest, "("), times(40, "(") + " ) " + long, api.ErrDeep},
		{"(", deepExpr(41) + " " + long + " x", api.ErrDeep},
		{"(" + times(40, "- "), long, api.ErrLong},
		{times(159, "- "), long, api.ErrLong},
		{times(160, "- "), long, api.ErrDeep},
		{times(119, "- "), times(40, "- ") + "x", api.ErrDeep},
		{times(119, "- "), times(40, "- ") + "x" + long, api.ErrDeep},
		{times(119, "- "), times(40, "- ") + "f()", api.ErrDeep},
		{times(158, "- ") + "f(", ";", api.ErrWant},
		{times(159, "- ") + "f(", ";", api.ErrDeep},
	} {
		refusesExpr(t, c.ahead+c.behind, c.err, len(c.ahead))
	}
	src, at := body("x = " + deepExpr(39) + "; y = " + deepExpr(40) + "; z")
	refuses(t, src, api.ErrDeep, at+len("x = "+deepExpr(39)+"; "))
}

func TestSourcesOfManyBytes(t *testing.T) {
	// R1: a source of MaxSource bytes, of each kind of which much can be put into it.
	fill := func(head, one, tail string) string {
		n := (api.MaxSource - len(head) - len(tail)) / len(one)
		return head + times(n, one) + tail
	}
	head, at := body("")
	head = head[:at]
	for _, src := range []string{
		fill("type t = {A", ",A", "};"), fill("", "type t={A};", ""), fill("", "node f()returns(x:t)let tel ", ""), fill("node f(x:t", ",x:t", ")returns(x:t)let tel"),
		fill("node f()returns(x:t)var ", "x:t;", "let tel"), fill(head, "x=1;", "tel"), fill(head, "x=-(-(-(-(-(1)))));", "tel"), fill(head+"(x,x", ",x", ")=1; tel"),
		fill(head+"automaton ", "state A{}", "end; tel"), fill(head+"automaton state A{}", "until x then A ", "end; tel"), fill(head+"x=f(1", ",1", "); tel"), fill(head+times(38, "reset{"), "x=1;", times(38, "}every x;")+"tel"),
		fill(head+"x="+times(37, "f(")+"x", ",x", times(37, ")")+"; tel"),
	} {
		takes(t, src)
	}
	for _, src := range []string{"(", "- ", "x->", "f(", "x+", "if ", "reset{", "present x then{", "automaton state A{", "x=", "node ", "{", "1 ", "x fby "} {
		for _, in := range []string{fill("", src, ""), fill(head, src, ""), fill(head+"x=", src, "")} {
			if _, err, _ := parse.Parse([]byte(in)); err != api.ErrWant && err != api.ErrDeep {
				t.Error(short(in), err)
			}
			if _, err, _ := parse.ParseExpr([]byte(in)); err != api.ErrWant && err != api.ErrDeep {
				t.Error(short(in), err)
			}
		}
	}
}

func TestNothingDeeperIsTaken(t *testing.T) {
	// 5.3: whatever is taken is no more than MaxDepth deep, and whatever of the grammar is not too deep is taken.
	deep := 0
	for seed := range int64(600) {
		w := newWriter(seed, 400)
		want := w.expr()
		e, err, place := parse.ParseExpr([]byte(w.text.String()))
		if depth(want) <= api.MaxDepth {
			if err != api.OK {
				t.Fatal(w.text.String(), err)
			}
			continue
		}
		deep++
		if err != api.ErrDeep || e.Kind != 0 || place != firstDeep(want) && !strings.Contains(w.text.String(), "(") {
			t.Fatalf("%s: %v at %d, not %d", w.text.String(), err, place, firstDeep(want))
		}
	}
	if deep < 20 {
		t.Error(deep)
	}
}

// firstDeep tells the place of the first part that is one level too deep: one that has no such part itself.
func firstDeep(e api.Expr) int {
	for _, a := range e.Args {
		if depth(a) > api.MaxDepth {
			return firstDeep(a)
		}
	}
	return e.Pos
}
