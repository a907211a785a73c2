package kinds_test

import (
	"regexp"
	"slices"
	"strconv"
	"strings"
	"testing"

	"foliot/api"
	"foliot/kinds"
	"foliot/names"
	"foliot/parse"
	"foliot/show"
	"foliot/types"
)

// marked tells a source without the @ in it, and the place of that; 0 without one.
func marked(src string) (string, int) {
	head, tail, there := strings.Cut(src, "@")
	if !there {
		return src, 0
	}
	return head + tail, len(head)
}

func program(t *testing.T, src string) api.Program {
	t.Helper()
	p, err, place := parse.Parse([]byte(src))
	if err != api.OK {
		t.Fatalf("%s: %v, %d", src, err, place)
	}
	return p
}

func expr(t *testing.T, src string) api.Expr {
	t.Helper()
	e, err, place := parse.ParseExpr([]byte(src))
	if err != api.OK {
		t.Fatalf("%s: %v, %d", src, err, place)
	}
	return e
}

// tells asks that Check tells this of a source, at its mark.
func tells(t *testing.T, src string, want api.Errno) {
	t.Helper()
	src, at := marked(src)
	p := program(t, src)
	if err, place := kinds.Check(p); err != want || place != at {
		t.Errorf("%s: got %v, %d, want %v, %d", src, err, place, want, at)
	}
	agrees(t, p)
}

// The words of the chapter, said again: what is in an expression is all listed; what goes on evenly has one of some forms; what is wrong is all listed, the first one ahead.

func allIn(e api.Expr) []api.Expr {
	out := []api.Expr{e}
	for _, a := range e.Args {
		out = append(out, allIn(a)...)
	}
	return out
}

func steady(e api.Expr, ders []string) bool {
	for _, x := range allIn(e) {
		if x.Kind == api.EVar && slices.Contains(ders, x.Name) {
			return false
		}
	}
	return true
}

func quiet(e api.Expr) bool {
	for _, x := range allIn(e) {
		word, _, _ := strings.Cut(head(x), " ")
		if word == "call" || word == "up" || slices.Contains([]string{"un pre", "bin fby", "bin ->"}, head(x)) {
			return false
		}
	}
	return true
}

// head tells an expression's kind and Name.
func head(e api.Expr) string {
	if e.Kind < 1 || e.Kind > 11 {
		return "none " + e.Name
	}
	return strings.Fields("- bool num ctor var last un bin if call up tuple")[e.Kind] + " " + e.Name
}

// form tells an expression's kind and Name, and its Args' kinds.
func form(e api.Expr, ders []string) string {
	out := head(e) + " "
	for _, a := range e.Args {
		out += strconv.Itoa(of(a, ders))
	}
	return out
}

var even = regexp.MustCompile(`^var |^un - [01]$|^bin [+-] [01][01]$|^bin \* (0[01]|10)$|^bin / [01]0$|^if \S* 0[01][01]$`)

func of(e api.Expr, ders []string) int {
	switch {
	case quiet(e) && steady(e, ders):
		return 0
	case even.MatchString(form(e, ders)):
		return 1
	}
	return 2
}

// agreesOf holds Of and Steady against the words.
func agreesOf(t *testing.T, e api.Expr, ders []string) int {
	t.Helper()
	got, want := kinds.Of(e, ders), of(e, ders)
	if got != want || kinds.Steady(e, ders) != steady(e, ders) {
		text, _ := show.ShowExpr(e)
		t.Fatalf("%s\n%v, %v: got %d, %v, want %d", text, e, ders, got, kinds.Steady(e, ders), want)
	}
	return got
}

// finding is what is wrong, and why.
type finding struct {
	err   api.Errno
	place int
	why   string
}

// read is what is read of a row of equations, one by one: a der, or an expression.
type read struct {
	der *api.Eq
	e   api.Expr
}

func reads(l []api.Eq) []read {
	var out []read
	exprs := func(l ...api.Expr) {
		for _, e := range l {
			for _, x := range allIn(e) {
				out = append(out, read{e: x})
			}
		}
	}
	for i, q := range l {
		switch q.Kind {
		case api.QDer:
			out = append(out, read{der: &l[i]})
			exprs(slices.Concat(q.Args, q.Init, q.Again)...)
		case api.QReset:
			out = append(out, reads(q.Blocks[0])...)
			exprs(q.Args...)
		default:
			exprs(q.Args...)
			out = append(out, reads(slices.Concat(q.Blocks...))...)
		}
		for _, s := range q.States {
			out = append(out, reads(s.Eqs)...)
			for _, t := range s.Trans {
				exprs(t.Cond)
			}
		}
	}
	return out
}

func find(p api.Program) []finding {
	if err, place := types.Check(p); err != api.OK {
		return []finding{{err, place, "layer 9"}}
	}
	var out []finding
	for _, n := range p.Nodes {
		ders := names.Ders(n)
		say := func(wrong bool, place int, why string) {
			if wrong {
				out = append(out, finding{api.ErrKind, place, why})
			}
		}
		for _, x := range reads(n.Eqs) {
			switch {
			case x.der != nil:
				say(!n.Hybrid, x.der.Pos, "der in a node")
				say(!steady(x.der.Args[0], ders), x.der.Args[0].Pos, "slope")
			case x.e.Kind == api.EUp:
				say(!n.Hybrid, x.e.Pos, "up in a node")
				say(of(x.e.Args[0], ders) == 2, x.e.Pos, "up of 2")
			case x.e.Kind == api.ECall:
				say(!n.Hybrid && p.Nodes[names.Node(p, x.e.Name)].Hybrid, x.e.Pos, "call in a node")
			}
		}
	}
	return out
}

// agrees holds Check against the words, and tells why something is wrong first.
func agrees(t *testing.T, p api.Program) string {
	t.Helper()
	l := find(p)
	first := append(slices.Clone(l), finding{})[0]
	if err, place := kinds.Check(p); err != first.err || place != first.place {
		text, _ := show.Show(p)
		t.Fatalf("%s\n%v: got %v, %d, want %v", text, p, err, place, l)
	}
	return first.why
}
