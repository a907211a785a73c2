package inits_test

import (
	"slices"
	"testing"

	"foliot/api"
	"foliot/inits"
	"foliot/sample"
	"foliot/show"
)

func TestRandomRight(t *testing.T) {
	// 11.2: programs that tell all at the first instant that they must.
	for seed := range int64(1500) {
		p := sample.Begun(dice(seed).Intn, 70)
		if why := agrees(t, p); why != "" {
			text, _ := show.Show(p)
			t.Fatalf("%s\n%s", text, why)
		}
	}
}

func TestRandomSpoiled(t *testing.T) {
	// 11.2: programs in which something was changed: each thing that may be wrong is so in many, and first. (What an up asks is of layer 10 ahead of that.)
	count := map[string]int{}
	for seed := range int64(6000) {
		r := dice(seed)
		p := sample.Begun(r.Intn, 70)
		for range 1 + r.Intn(3) {
			spoil(r, &p)
		}
		count[agrees(t, p)]++
	}
	for _, why := range []string{"", "layer 10", "whole", "pre", "fby", "call"} {
		if count[why] < 40 {
			t.Error(why, count)
		}
	}
}

func TestRandomAny(t *testing.T) {
	// 11.2: programs that were made without a look at what they tell at the first instant.
	count := map[string]int{}
	for seed := range int64(3000) {
		p := []func(func(int) int, int) api.Program{sample.Program, sample.Kinded}[seed%2](dice(seed).Intn, 40)
		count[agrees(t, p)]++
	}
	for _, why := range []string{"", "layer 10", "whole", "pre", "fby", "call"} {
		if count[why] < 5 {
			t.Error(why, count)
		}
	}
}

func TestRandomExprs(t *testing.T) {
	// 11.1: expressions of programs; each thing that may be wrong is so in many, and first; and so is what they tell over some instants.
	count, levels := map[string]int{}, [2]int{}
	for seed := range int64(2000) {
		r := dice(seed)
		p := []func(func(int) int, int) api.Program{sample.Program, sample.Kinded, sample.Begun}[seed%3](r.Intn, 70)
		for range r.Intn(6) {
			spoil(r, &p)
		}
		for _, n := range p.Nodes {
			for _, e := range exprsIn(n.Eqs) {
				count[agreesLevel(t, *e)]++
				if level, err, _ := inits.Level(*e); err == api.OK {
					levels[level]++
				}
				agreesRun(t, *e)
			}
		}
	}
	for _, why := range []string{"", "pre", "fby", "call", "up"} {
		if count[why] < 40 {
			t.Error(why, count)
		}
	}
	if min(levels[0], levels[1]) < 2000 {
		t.Error(levels)
	}
}

func TestNothingIsEverNothing(t *testing.T) {
	// 11.3: in programs that are checked all that stands in an equation tells something at each instant, what it reads being told; and so it is with what calls and ups are handed.
	asked := 0
	for seed := range int64(2000) {
		r := dice(seed)
		p := sample.Begun(r.Intn, 70)
		if seed%2 == 0 {
			spoil(r, &p)
		}
		if err, _ := inits.Check(p); err != api.OK {
			continue
		}
		for _, n := range p.Nodes {
			for _, e := range whole(n.Eqs) {
				if r := runOf(&e); r.first || r.wrong {
					text, _ := show.Show(p)
					t.Fatalf("%s\n%v: %v", text, e, r)
				}
				asked++
			}
		}
	}
	if asked < 5000 {
		t.Error(asked)
	}
}

// What an expression tells over some instants of its scope, variables and calls telling something at all of them: whether that is nothing. Of an if, of whose parts one is told, the worse one is taken.

// run is what happens then.
type run struct {
	begins bool
	kept   map[*api.Expr]bool // what was nothing at the instant ahead, of pre and fby
	first  bool               // the whole was nothing, when the scope began
	wrong  bool               // something was nothing at another instant, or what a call or an up was handed
}

func runOf(e *api.Expr) run {
	r := run{kept: map[*api.Expr]bool{}}
	for _, begins := range []bool{true, false, false, true, false} {
		r.begins = begins
		if r.isNothing(e) && begins {
			r.first = true
		}
	}
	return r
}

func (r *run) isNothing(e *api.Expr) bool {
	var l []bool
	for i := range e.Args {
		l = append(l, r.isNothing(&e.Args[i]))
	}
	out := r.tellsNothing(e, l)
	if out && !r.begins {
		r.wrong = true
	}
	return out
}

func (r *run) tellsNothing(e *api.Expr, l []bool) bool {
	any := slices.Contains(l, true)
	switch {
	case e.Kind == api.ECall, e.Kind == api.EUp:
		r.wrong = r.wrong || any
		return false
	case e.Kind == api.EUn && e.Name == "pre":
		return r.was(e, true, l[0])
	case e.Kind == api.EBin && e.Name == "fby":
		return r.was(e, l[0], l[1])
	case e.Kind == api.EBin && e.Name == "->" && r.begins:
		return l[0]
	case e.Kind == api.EBin && e.Name == "->":
		return l[1]
	}
	return any
}

// was tells first, when the scope begins, else what was now at the instant ahead.
func (r *run) was(e *api.Expr, first, now bool) bool {
	out := r.kept[e]
	if r.begins {
		out = first
	}
	r.kept[e] = now
	return out
}

// agreesRun holds Level against what an expression tells: it is of 1, if it may tell nothing when its scope begins; it is wrong, if something may be nothing elsewhere.
func agreesRun(t *testing.T, e api.Expr) {
	t.Helper()
	level, err, _ := inits.Level(e)
	r := runOf(&e)
	if r.wrong != (err == api.ErrInit) || err == api.OK && r.first != (level == 1) {
		text, _ := show.ShowExpr(e)
		t.Fatalf("%s: got %d, %v, want %v, %v", text, level, err, r.first, r.wrong)
	}
}
