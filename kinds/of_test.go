package kinds_test

import (
	"strings"
	"testing"

	"foliot/api"
	"foliot/kinds"
)

// given are the ders of the tests: x and z.
func given() []string { return []string{"x", "z"} }

// kind asks Of for the kind of a text.
func kind(t *testing.T, src string, want int) {
	t.Helper()
	e := expr(t, src)
	if got := kinds.Of(e, given()); got != want {
		t.Errorf("%s: got %d, want %d", src, got, want)
	}
	agreesOf(t, e, given())
}

func TestExamples(t *testing.T) {
	// 10.1: the chapter's own.
	for src, want := range map[string]int{"x - 1": 1, "x * x": 2, "y * 2": 0, "pre y": 2, "x < 1": 2} {
		kind(t, src, want)
	}
}

func TestLeaves(t *testing.T) {
	// 10.1: of all that has no Args, only a der's name does not stay.
	for _, src := range []string{"true", "false", "1", "0.5", "A", "y", "last y", "last x", "last z"} {
		kind(t, src, 0)
	}
	kind(t, "x", 1)
	kind(t, "z", 1)
	for _, src := range []string{"f()", "x()"} {
		kind(t, src, 2)
	}
}

// samples are expressions of each kind.
func samples() [][]string {
	return [][]string{
		{"y", "last x", "1", "A", "y * y", "not (y < 2)", "floor(y)", "if y > 0 then 1 else y", "(y, 1)"},
		{"x", "x + 1", "- z", "y * x", "x / y", "x - z", "if y > 0 then x else 1"},
		{"pre y", "x * x", "y / x", "up(y)", "f()", "f(y)", "x < 1", "1 fby y", "0 -> y", "floor(x)", "if x > 0 then y else y", "(x, y)", "- pre x", "last y + up(1)"},
	}
}

// table asks for what a form makes of its Args of kinds, told by digits; what stands at no place in list is of 2.
func table(t *testing.T, form string, list string) {
	t.Helper()
	wanted := map[string]int{}
	for _, entry := range strings.Fields(list) {
		args, gives, _ := strings.Cut(entry, ":")
		wanted[args] = int(gives[0] - '0')
	}
	var fill func(text, digits string)
	fill = func(text, digits string) {
		if strings.Contains(text, "?") {
			for digit, l := range samples() {
				for _, src := range l {
					fill(strings.Replace(text, "?", "("+src+")", 1), digits+string(rune('0'+digit)))
				}
			}
			return
		}
		want, there := wanted[digits]
		if !there {
			want = 2
		}
		kind(t, text, want)
	}
	fill(form, "")
}

func TestOneArg(t *testing.T) {
	// 10.1
	table(t, "- ?", "0:0 1:1")
	table(t, "not ?", "0:0")
	table(t, "floor(?)", "0:0")
	table(t, "rat(?)", "0:0")
	table(t, "pre ?", "")
	table(t, "up(?)", "")
	table(t, "f(?)", "")
}

func TestTwoArgs(t *testing.T) {
	// 10.1
	table(t, "? + ?", "00:0 01:1 10:1 11:1")
	table(t, "? - ?", "00:0 01:1 10:1 11:1")
	table(t, "? * ?", "00:0 01:1 10:1")
	table(t, "? / ?", "00:0 10:1")
	for _, sign := range strings.Fields("div mod < <= > >= == != and or") {
		table(t, "? "+sign+" ?", "00:0")
	}
	table(t, "? fby ?", "")
	table(t, "? -> ?", "")
	table(t, "(?, ?)", "00:0")
	table(t, "f(?, ?)", "")
}

func TestThreeArgs(t *testing.T) {
	// 10.1
	table(t, "if ? then ? else ?", "000:0 001:1 010:1 011:1")
	table(t, "(?, ?, ?)", "000:0")
}

func TestFarWithin(t *testing.T) {
	// 10.1: what stands in an expression may stand anywhere in it, by itself or beside others.
	deep := func(inner string) string {
		for range 8 {
			inner = "if y < 1 then y + (- (" + inner + ")) * 2 else 1"
		}
		return inner
	}
	kind(t, deep("y"), 0)
	kind(t, deep("last x"), 0)
	kind(t, deep("x"), 1)
	kind(t, deep("x * z"), 2)
	for _, loud := range []string{"pre y", "1 fby y", "y -> y", "f(y)", "f()", "if up(y) then 1 else 2", "floor(x)"} {
		kind(t, deep(loud), 2)
		kind(t, "x + y * ("+deep(loud)+")", 2)
	}
}

func TestSteady(t *testing.T) {
	// 10.1: only a variable that is a der is not steady: what is not quiet may be steady.
	for src, want := range map[string]bool{
		"x": false, "z": false, "y": true, "last x": true, "1": true, "x()": true, "x(y)": true, "f(x)": false, "f(y, 1, z)": false,
		"pre x": false, "pre y": true, "up(y)": true, "up(y - x)": false, "x -> y": false, "y fby x": false, "1 fby y": true,
		"if x > 1 then y else y": false, "if y > 1 then y else z": false, "if y > 1 then x else y": false, "if y > 1 then y else y": true,
		"(y, y, (y, x))": false, "(y, last z, X)": true, "not not not - - - floor(rat(x))": false, "y + y + y + y * y * last x": true, "y + y + y + y * y * x": false,
	} {
		e := expr(t, src)
		if got := kinds.Steady(e, given()); got != want {
			t.Error(src, got)
		}
		agreesOf(t, e, given())
	}
}

func TestDers(t *testing.T) {
	// 10.1: ders are what they are given as: none, many, some twice, some that nobody has, some that are no variables' names.
	e := expr(t, "if b then x + y else - last x")
	for _, x := range []struct {
		ders   string
		kind   int
		steady bool
	}{{"", 0, true}, {"x", 1, false}, {"y", 1, false}, {"y x", 1, false}, {"y y y", 1, false}, {"b", 2, false}, {"b x y", 2, false}, {"z w v", 0, true}, {"if + - then X last", 0, true}, {"xx X x1", 0, true}} {
		ders := strings.Fields(x.ders)
		if got := kinds.Of(e, ders); got != x.kind || kinds.Steady(e, ders) != x.steady {
			t.Error(x, got)
		}
		agreesOf(t, e, ders)
	}
	for _, src := range []string{"1 + 0.5", "true", "A", "last x", "- last x"} {
		if e := expr(t, src); kinds.Of(e, []string{"1", "0.5", "true", "A", "x", "-", "+", ""}) != 0 || !kinds.Steady(e, []string{"1", "0.5", "true", "A", "x", "-", "+", ""}) {
			t.Error(src)
		}
	}
	if e := expr(t, "x"); kinds.Of(e, nil) != 0 || !kinds.Steady(e, nil) {
		t.Error("without ders")
	}
	if e := (api.Expr{Kind: api.EVar}); kinds.Of(e, []string{""}) != 1 || kinds.Steady(e, []string{""}) || kinds.Of(e, []string{"x"}) != 0 {
		t.Error("a variable without a name")
	}
}
