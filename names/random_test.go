package names_test

import (
	"slices"
	"testing"

	"foliot/api"
	"foliot/lex"
	"foliot/names"
	"foliot/parse"
	"foliot/show"
)

func TestRandomRight(t *testing.T) {
	// 8.1 to 8.3: programs whose names are right, and what follows for them.
	for seed := range int64(2500) {
		m := newMaker(seed, 60)
		p := m.program()
		if err := agrees(t, p); err != api.OK {
			text, _ := show.Show(p)
			t.Fatalf("%s\n%v", text, err)
		}
		follows(t, m, p)
	}
}

func TestRandomSpoiled(t *testing.T) {
	// 8.1, 8.3: programs in which something was changed; each error comes up.
	count := map[api.Errno]int{}
	for seed := range int64(6000) {
		m := newMaker(seed, 60)
		p := m.program()
		m.spoil(&p, 1+m.r.Intn(3))
		err := agrees(t, p)
		count[err]++
		if err == api.OK {
			follows(t, m, p)
		}
		asText(t, p)
	}
	for _, err := range []api.Errno{api.OK, api.ErrArg, api.ErrTwice, api.ErrName, api.ErrDef, api.ErrCall, api.ErrRound, api.ErrMain, api.ErrBranch} {
		if count[err] < 20 {
			t.Error(err, count)
		}
	}
}

// asText holds Check against the words on a right program's text, and Ders and Calls against its tokens: a source has them in the order in which they are read.
func asText(t *testing.T, p api.Program) {
	t.Helper()
	text, err := show.Show(p)
	if err != api.OK {
		return
	}
	q, err, _ := parse.Parse(text)
	if err != api.OK {
		t.Fatalf("%s", text)
	}
	agrees(t, q)
	for i, n := range p.Nodes {
		from, to := q.Nodes[i].Pos, len(text)
		if i+1 < len(q.Nodes) {
			to = q.Nodes[i+1].Pos
		}
		ders, calls := fromTokens(text[from:to])
		if got := names.Ders(n); !slices.Equal(got, ders) || !slices.Equal(names.Ders(q.Nodes[i]), ders) {
			t.Fatalf("%s: got %v, want %v", text[from:to], got, ders)
		}
		if got := names.Calls(n); !slices.Equal(got, calls) || !slices.Equal(names.Calls(q.Nodes[i]), calls) {
			t.Fatalf("%s: got %v, want %v", text[from:to], got, calls)
		}
	}
}

// fromTokens tells the names behind der, and those with a bracket behind them, of a node's text behind let.
func fromTokens(text []byte) (ders, calls []string) {
	l, _, _ := lex.Tokens(text)
	l = l[slices.IndexFunc(l, func(x api.Token) bool { return x.Text == "let" }):]
	for i, x := range l[1:] {
		if l[i].Text == "der" && !slices.Contains(ders, x.Text) {
			ders = append(ders, x.Text)
		}
		if l[i].Kind == api.TName && x.Text == "(" && !slices.Contains(calls, l[i].Text) {
			calls = append(calls, l[i].Text)
		}
	}
	return ders, calls
}

// follows holds 8.3 against a program that is checked.
func follows(t *testing.T, m *maker, p api.Program) {
	t.Helper()
	for i, n := range p.Nodes {
		if names.Node(p, n.Name) != i {
			t.Fatal(n.Name)
		}
		for range 3 {
			eachOnce(t, n, m.way(n.Eqs))
		}
		if slices.Contains(called(p, n, len(p.Nodes)), n.Name) {
			t.Fatalf("%s calls itself", n.Name)
		}
	}
	for i, e := range p.Enums {
		for j, name := range e.Ctors {
			if a, b := names.Ctor(p, name); a != i || b != j {
				t.Fatal(name, a, b)
			}
		}
	}
}

// way tells what is told on one of the ways through a row: of each present one block, of each automaton one state.
func (m *maker) way(l []api.Eq) []string {
	var out []string
	for _, q := range l {
		out = append(out, q.Names...)
		if b := blocks(q); len(b) > 0 {
			out = append(out, m.way(one(m, b...))...)
		}
	}
	return out
}

// eachOnce asks of a way that it tells each own variable once; or not, if it has a beginning.
func eachOnce(t *testing.T, n api.Node, way []string) {
	t.Helper()
	for _, v := range slices.Concat(n.Out, n.Local) {
		count := 0
		for _, name := range way {
			if name == v.Name {
				count++
			}
		}
		if count != 1 && (count > 1 || len(v.Init) == 0) {
			t.Fatalf("%v: %s, %d times", n, v.Name, count)
		}
	}
}

// called lists what a node calls, by ways of no more than so many steps.
func called(p api.Program, n api.Node, steps int) []string {
	out := names.Calls(n)
	if steps > 0 {
		for _, name := range out {
			out = slices.Concat(out, called(p, p.Nodes[names.Node(p, name)], steps-1))
		}
	}
	return out
}
