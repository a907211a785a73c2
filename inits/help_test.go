package inits_test

import (
	"math/rand"
	"slices"
	"strings"
	"testing"

	"foliot/api"
	"foliot/inits"
	"foliot/kinds"
	"foliot/parse"
	"foliot/show"
)

func dice(seed int64) *rand.Rand { return rand.New(rand.NewSource(seed)) }

// marked tells a source without the @ in it, and the place of that; 0 without one.
func marked(src string) (string, int) {
	head, tail, there := strings.Cut(src, "@")
	if !there {
		return src, 0
	}
	return head + tail, len(head)
}

func program(t *testing.T, src string) api.Program {
	t.Helper()
	p, err, place := parse.Parse([]byte(src))
	if err != api.OK {
		t.Fatalf("%s: %v, %d", src, err, place)
	}
	return p
}

func expr(t *testing.T, src string) api.Expr {
	t.Helper()
	e, err, place := parse.ParseExpr([]byte(src))
	if err != api.OK {
		t.Fatalf("%s: %v, %d", src, err, place)
	}
	return e
}

// tells asks that Check tells this of a source, at its mark.
func tells(t *testing.T, src string, want api.Errno) {
	t.Helper()
	src, at := marked(src)
	p := program(t, src)
	if err, place := inits.Check(p); err != want || place != at {
		t.Errorf("%s: got %v, %d, want %v, %d", src, err, place, want, at)
	}
	agrees(t, p)
}

// level asks that Level tells this of a text, or, if it has a mark, ErrInit there.
func level(t *testing.T, src string, want int) {
	t.Helper()
	text, at := marked(src)
	err := api.OK
	if text != src {
		want, err = 0, api.ErrInit
	}
	e := expr(t, text)
	if got, told, place := inits.Level(e); got != want || told != err || place != at {
		t.Errorf("%s: got %d, %v, %d, want %d, %v, %d", src, got, told, place, want, err, at)
	}
	agreesLevel(t, e)
}

// The words of the chapter, said again: levels are told without a look at what is wrong; that is all listed, what is wrong with Args ahead of what is wrong with what they are part of.

// finding is what is wrong, and why.
type finding struct {
	err   api.Errno
	place int
	why   string
}

// head tells an expression's kind and Name, of one that a sign puts together or that has a word ahead; else its kind.
func head(e api.Expr) string {
	kind := strings.Fields("- bool num ctor var last un bin if call up tuple")[e.Kind]
	if kind == "un" || kind == "bin" {
		return e.Name
	}
	return kind
}

func levelOf(e api.Expr) int {
	switch head(e) {
	case "pre":
		return 1
	case "fby", "->":
		return levelOf(e.Args[0])
	case "call", "up":
		return 0
	}
	if slices.ContainsFunc(e.Args, func(a api.Expr) bool { return levelOf(a) == 1 }) {
		return 1
	}
	return 0
}

// insideOut lists all that is in an expression: its Args, and what is in them, ahead of itself.
func insideOut(e api.Expr) []api.Expr {
	var out []api.Expr
	for _, a := range e.Args {
		out = append(out, insideOut(a)...)
	}
	return append(out, e)
}

func findIn(e api.Expr) []finding {
	var out []finding
	asked := func(a api.Expr, place int, why string) {
		if levelOf(a) != 0 {
			out = append(out, finding{api.ErrInit, place, why})
		}
	}
	for _, x := range insideOut(e) {
		switch word := head(x); word {
		case "pre":
			asked(x.Args[0], x.Pos, word)
		case "fby":
			asked(x.Args[1], x.Args[1].Pos, word)
		case "call", "up":
			for _, a := range x.Args {
				asked(a, a.Pos, word)
			}
		}
	}
	return out
}

// agreesLevel holds Level against the words, for an expression that is right, and tells why something is wrong first.
func agreesLevel(t *testing.T, e api.Expr) string {
	t.Helper()
	l := findIn(e)
	first, want := append(l, finding{})[0], 0
	if len(l) == 0 {
		want = levelOf(e)
	}
	if got, err, place := inits.Level(e); got != want || err != first.err || place != first.place {
		text, _ := show.ShowExpr(e)
		t.Fatalf("%s\n%v: got %d, %v, %d, want %d, %v", text, e, got, err, place, want, l)
	}
	return first.why
}

// whole lists the expressions of equations, not what is part of them, in the order in which they are read.
func whole(l []api.Eq) []api.Expr {
	var out []api.Expr
	for _, q := range l {
		blocks := whole(slices.Concat(q.Blocks...))
		if q.Kind == api.QReset {
			out = append(append(out, blocks...), q.Args...)
		} else {
			out = append(append(out, slices.Concat(q.Args, q.Init, q.Again)...), blocks...)
		}
		for _, s := range q.States {
			out = append(out, whole(s.Eqs)...)
			for _, t := range s.Trans {
				out = append(out, t.Cond)
			}
		}
	}
	return out
}

func find(p api.Program) []finding {
	if err, place := kinds.Check(p); err != api.OK {
		return []finding{{err, place, "layer 10"}}
	}
	var out []finding
	for _, n := range p.Nodes {
		for _, e := range whole(n.Eqs) {
			out = append(out, findIn(e)...)
			if levelOf(e) != 0 {
				out = append(out, finding{api.ErrInit, e.Pos, "whole"})
			}
		}
	}
	return out
}

// agrees holds Check against the words, and tells why something is wrong first.
func agrees(t *testing.T, p api.Program) string {
	t.Helper()
	l := find(p)
	first := append(l, finding{})[0]
	if err, place := inits.Check(p); err != first.err || place != first.place {
		text, _ := show.Show(p)
		t.Fatalf("%s\n%v: got %v, %d, want %v", text, p, err, place, l)
	}
	return first.why
}
