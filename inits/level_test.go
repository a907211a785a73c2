package inits_test

import (
	"strings"
	"testing"

	"foliot/api"
	"foliot/inits"
)

func TestExamples(t *testing.T) {
	// 11.1: the chapter's own.
	level(t, "0 -> pre n + 1", 0)
	level(t, "pre n", 1)
	level(t, "@pre pre n", 0)
	level(t, "(pre n) fby 0", 1)
	level(t, "1 fby @pre n", 0)
}

func TestLeaves(t *testing.T) {
	// 11.1: without Args: 0.
	for _, src := range []string{"true", "false", "1", "0.5", "A", "x", "last x", "f()", "pre_", "prex()"} {
		level(t, src, 0)
	}
}

// samples are expressions of each level; those of the last row are wrong in themselves.
func samples() [][]string {
	return [][]string{
		{"y", "1 -> pre y", "0 fby (1 -> pre y)", "f(1)", "f()", "up(y -> pre y)", "y + 1 * y", "(1, y)"},
		{"pre y", "1 + pre y", "pre y -> 1", "pre y fby 1", "pre y -> pre y", "if a then pre b else c", "if pre a then b else c", "- pre y", "not pre f(1)", "(1, pre y)"},
		{"pre pre y", "1 -> pre pre y", "f(pre y)", "0 fby pre y", "up(1 + pre y)", "1 + (pre y fby pre y)", "pre (pre y -> 1)", "f(1, g(pre pre y))"},
	}
}

// table asks for what a form makes of its Args of levels, told by digits: a level; o: ErrInit at its own place; a, b, c: ErrInit at the Pos of that Arg. An Arg that is wrong in itself, told by 2, is told ahead of all that.
func table(t *testing.T, form, list string) {
	t.Helper()
	wanted := map[string]byte{}
	for _, entry := range strings.Fields(list) {
		args, gives, _ := strings.Cut(entry, ":")
		wanted[args] = gives[0]
	}
	var fill func(text, digits string)
	fill = func(text, digits string) {
		if !strings.Contains(text, "?") {
			gives(t, text, digits, wanted[digits])
			return
		}
		for digit, l := range samples() {
			for _, src := range l {
				fill(strings.Replace(text, "?", "("+src+")", 1), digits+string(rune('0'+digit)))
			}
		}
	}
	fill(form, "")
}

// gives asks what Level tells of an expression with Args of these levels.
func gives(t *testing.T, text, digits string, want byte) {
	t.Helper()
	e := expr(t, text)
	level, err, place := 0, api.ErrInit, e.Pos
	switch wrong := strings.Index(digits, "2"); {
	case wrong >= 0:
		_, _, place = inits.Level(e.Args[wrong])
	case want == 'a', want == 'b', want == 'c':
		place = e.Args[want-'a'].Pos
	case want != 'o':
		level, err, place = int(want-'0'), api.OK, 0
	}
	if got, told, at := inits.Level(e); got != level || told != err || at != place {
		t.Errorf("%s: got %d, %v, %d, want %d, %v, %d", text, got, told, at, level, err, place)
	}
	agreesLevel(t, e)
}

func TestOneArg(t *testing.T) {
	// 11.1
	for _, form := range []string{"- ?", "not ?", "floor(?)", "rat(?)"} {
		table(t, form, "0:0 1:1")
	}
	table(t, "pre ?", "0:1 1:o")
	table(t, "up(?)", "0:0 1:a")
	table(t, "f(?)", "0:0 1:a")
}

func TestTwoArgs(t *testing.T) {
	// 11.1
	for _, sign := range strings.Fields("+ - * / div mod < <= > >= == != and or") {
		table(t, "? "+sign+" ?", "00:0 01:1 10:1 11:1")
	}
	table(t, "? fby ?", "00:0 01:b 10:1 11:b")
	table(t, "? -> ?", "00:0 01:0 10:1 11:1")
	table(t, "(?, ?)", "00:0 01:1 10:1 11:1")
	table(t, "f(?, ?)", "00:0 01:b 10:a 11:a")
}

func TestThreeArgs(t *testing.T) {
	// 11.1
	table(t, "if ? then ? else ?", "000:0 001:1 010:1 011:1 100:1 101:1 110:1 111:1")
	table(t, "(?, ?, ?)", "000:0 001:1 010:1 011:1 100:1 101:1 110:1 111:1")
	table(t, "f(?, ?, ?)", "000:0 001:c 010:b 011:b 100:a 101:a 110:a 111:a")
}

func TestPlaces(t *testing.T) {
	// 11.1: an Arg's own Pos, which of two that a sign puts together is the sign's; of pre the place of pre.
	level(t, "f(1, 2 @+ pre x)", 0)
	level(t, "f(@if a then 1 else pre x)", 0)
	level(t, "f(pre x @-> 1)", 0)
	level(t, "up(- 1 @* (2 - pre x))", 0)
	level(t, "up(@- (pre x))", 0)
	level(t, "1 fby (pre x @fby 2)", 0)
	level(t, "1 fby (2 @+ pre x)", 0)
	level(t, "1 fby ((@(1, pre x)))", 0)
	level(t, "1 + @pre (2 + pre x)", 0)
	level(t, "f((@pre x))", 0)
}

func TestArgsFirst(t *testing.T) {
	// 11.1: the Args' errors ahead of its own, one by one.
	level(t, "pre @pre pre x", 0)
	level(t, "pre pre @pre pre x", 0)
	level(t, "f(pre x, @pre pre x)", 0)
	level(t, "f(pre x, g(@pre x), pre pre x)", 0)
	level(t, "f(@pre pre x, g(pre x))", 0)
	level(t, "1 fby 2 fby @pre x", 0)
	level(t, "(1 fby @pre x) fby (1 fby pre x)", 0)
	level(t, "(1 fby 1) fby (1 fby @pre x)", 0)
	level(t, "1 fby (pre x + (1 fby @pre x))", 0)
	level(t, "pre x fby f(@pre x)", 0)
	level(t, "up(f(@pre x) + pre x)", 0)
	level(t, "if pre a then f(@pre b) else up(pre c)", 0)
	level(t, "if f(@pre b) then pre pre b else pre pre c", 0)
	level(t, "1 -> @pre pre x", 0)
	level(t, "@pre pre x -> f(pre x)", 0)
	level(t, "1 -> 2 -> 3 -> f(@pre x)", 0)
}

func TestFarWithin(t *testing.T) {
	// 11.1: what may be nothing may stand anywhere.
	deep := func(inner string) string {
		for range 8 {
			inner = "if y < 1 then y + (- (" + inner + ")) * 2 else 1"
		}
		return inner
	}
	level(t, deep("y"), 0)
	level(t, deep("1 -> pre y"), 0)
	level(t, deep("pre y"), 1)
	level(t, "1 -> "+deep("pre y"), 0)
	level(t, deep("@pre pre y"), 0)
	level(t, "1 -> "+deep("1 fby @pre y"), 0)
	level(t, "pre 1 -> pre ("+deep("f(1)")+")", 1)
	level(t, "@pre ("+deep("pre y")+")", 0)
}

func TestNotRight(t *testing.T) {
	// 11.1: ErrArg, 0, ahead of what is not told.
	e := func(kind int, name string, args ...api.Expr) api.Expr {
		return api.Expr{Kind: kind, Name: name, Args: args, Pos: 7}
	}
	x := e(api.EVar, "x")
	wrong := e(api.EUn, "pre", e(api.EUn, "pre", x))
	for _, part := range []api.Expr{
		{}, {Pos: 5}, e(-1, "x"), e(12, ""), e(api.EBool, "yes"), e(api.ENum, "1."), e(api.ENum, "-1"), e(api.ENum, strings.Repeat("1", api.MaxDigits+1)), e(api.ECtor, "a"), e(api.EVar, "X"), e(api.EVar, ""), e(api.EVar, "pre"), e(api.EVar, "x", x),
		e(api.ELast, "last"), e(api.EUn, "pre"), e(api.EUn, "pre", x, x), e(api.EUn, "fby", x), e(api.EUn, "", x), e(api.EBin, "fby", x), e(api.EBin, "->"), e(api.EBin, "->", x, x, x), e(api.EBin, "pre", x, x), e(api.EBin, "", x, x),
		e(api.EIf, "", x, x), e(api.EIf, "if", x, x, x), e(api.ECall, "F", x), e(api.ECall, "", x), e(api.EUp, ""), e(api.EUp, "up", x), e(api.EUp, "", x, x), e(api.ETuple, ""), e(api.ETuple, "", x), e(api.ETuple, "x", x, x),
	} {
		for _, whole := range []api.Expr{part, e(api.EUn, "-", part), e(api.ETuple, "", wrong, part), e(api.ETuple, "", part, wrong), e(api.ECall, "f", wrong, x, part), e(api.EBin, "->", x, e(api.EUn, "pre", part))} {
			if got, err, place := inits.Level(whole); got != 0 || err != api.ErrArg || place != 0 {
				t.Error(whole, got, err, place)
			}
		}
	}
}

func TestDeepest(t *testing.T) {
	// 11.1: MaxDepth deep: right; one deeper: not.
	for _, inner := range []string{"1", "pre x", "1 -> pre x"} {
		e := expr(t, inner)
		want := levelOf(e)
		for depthOf(e) < api.MaxDepth {
			e = api.Expr{Kind: api.EBin, Name: "+", Args: []api.Expr{{Kind: api.ENum, Name: "1"}, e}, Pos: 3}
		}
		if got, err, place := inits.Level(e); got != want || err != api.OK || place != 0 {
			t.Error(inner, got, err, place)
		}
		agreesLevel(t, e)
		e = api.Expr{Kind: api.EUn, Name: "-", Args: []api.Expr{e}, Pos: 3}
		if got, err, place := inits.Level(e); got != 0 || err != api.ErrArg || place != 0 {
			t.Error(inner, got, err, place)
		}
	}
	pres := strings.Repeat("pre ", api.MaxDepth-3)
	level(t, pres+"@pre pre x", 0)
	level(t, strings.Repeat("- ", api.MaxDepth-2)+"pre x", 1)
}

func depthOf(e api.Expr) int {
	out := 0
	for _, a := range e.Args {
		out = max(out, depthOf(a))
	}
	return 1 + out
}
