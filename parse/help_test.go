package parse_test

import (
	"math/rand"
	"strings"

	"foliot/api"
)

// writer lays random programs out by the document's grammar, and knows what their trees are: it puts every token itself, so it knows each one's place.
type writer struct {
	text strings.Builder
	r    *rand.Rand
	size int // how much may yet be put: bounds what is within one another
}

func newWriter(seed int64, size int) *writer {
	return &writer{r: rand.New(rand.NewSource(seed)), size: size}
}

// put puts blanks and a token, and tells the token's place.
func (w *writer) put(token string) int {
	blanks := []string{" ", "\n", "\t", "  ", "\r\n", " -- a remark; tel\n"}
	w.text.WriteString(blanks[w.r.Intn(len(blanks))])
	w.text.WriteString(token)
	w.size--
	return w.text.Len() - len(token)
}

func (w *writer) one(of ...string) string { return of[w.r.Intn(len(of))] }

func (w *writer) name() string { return w.one("x", "y", "_z", "fooBar9", "lasts", "n0") }

func (w *writer) ctor() string { return w.one("A", "Red", "C_9") }

func (w *writer) digits() string { return w.one("0", "1", "00", "3.25", "12.0", "7") }

// more: whether something more may be put, by chance.
func (w *writer) more() bool { return w.size > 0 && w.r.Intn(3) == 0 }

func (w *writer) expr() api.Expr {
	if w.size > 0 && w.r.Intn(8) == 0 { // by itself, so that nothing behind it can be taken for its own
		place := w.put("if")
		a := w.expr()
		w.put("then")
		b := w.expr()
		w.put("else")
		return api.Expr{Kind: api.EIf, Args: []api.Expr{a, b, w.expr()}, Pos: place}
	}
	return w.fromRight("->", w.follow)
}

func (w *writer) follow() api.Expr { return w.fromRight("fby", w.or) }

func (w *writer) or() api.Expr { return w.fromLeft(w.and, "or") }

func (w *writer) and() api.Expr { return w.fromLeft(w.compare, "and") }

func (w *writer) compare() api.Expr {
	out := w.sum()
	if w.more() {
		out = w.binary(w.one("<", "<=", ">", ">=", "==", "!="), out, w.sum)
	}
	return out
}

func (w *writer) sum() api.Expr { return w.fromLeft(w.product, "+", "-") }

func (w *writer) product() api.Expr { return w.fromLeft(w.unary, "*", "/", "div", "mod") }

func (w *writer) binary(sign string, first api.Expr, second func() api.Expr) api.Expr {
	place := w.put(sign)
	return api.Expr{Kind: api.EBin, Name: sign, Args: []api.Expr{first, second()}, Pos: place}
}

func (w *writer) fromLeft(part func() api.Expr, signs ...string) api.Expr {
	out := part()
	for w.more() {
		out = w.binary(w.one(signs...), out, part)
	}
	return out
}

func (w *writer) fromRight(sign string, part func() api.Expr) api.Expr {
	out := part()
	if w.more() {
		out = w.binary(sign, out, func() api.Expr { return w.fromRight(sign, part) })
	}
	return out
}

func (w *writer) unary() api.Expr {
	if !w.more() {
		return w.atom()
	}
	sign := w.one("-", "not", "pre")
	place := w.put(sign)
	return api.Expr{Kind: api.EUn, Name: sign, Args: []api.Expr{w.unary()}, Pos: place}
}

func (w *writer) leaf(kind int, text string) api.Expr {
	return api.Expr{Kind: kind, Name: text, Pos: w.put(text)}
}

func (w *writer) atom() api.Expr {
	kinds := 10
	if w.size <= 0 {
		kinds = 5
	}
	switch w.r.Intn(kinds) {
	case 0:
		return w.leaf(api.ENum, w.digits())
	case 1:
		return w.leaf(api.EBool, w.one("true", "false"))
	case 2:
		return w.leaf(api.ECtor, w.ctor())
	case 3:
		place, name := w.put("last"), w.name()
		w.put(name)
		return api.Expr{Kind: api.ELast, Name: name, Pos: place}
	case 4:
		return w.leaf(api.EVar, w.name())
	case 5:
		name := w.name()
		return w.headed(api.ECall, name, name, w.r.Intn(4))
	case 6:
		return w.headed(api.EUp, "up", "", 1)
	case 7:
		word := w.one("floor", "rat")
		return w.headed(api.EUn, word, word, 1)
	case 8:
		_, args := w.args(1)
		return args[0]
	}
	place, args := w.args(2 + w.r.Intn(2))
	return api.Expr{Kind: api.ETuple, Args: args, Pos: place}
}

// headed puts a word and expressions in brackets.
func (w *writer) headed(kind int, word, name string, n int) api.Expr {
	place := w.put(word)
	_, args := w.args(n)
	return api.Expr{Kind: kind, Name: name, Args: args, Pos: place}
}

// args puts expressions in brackets, and tells the first bracket's place.
func (w *writer) args(n int) (int, []api.Expr) {
	place := w.put("(")
	var out []api.Expr
	for range n {
		if len(out) > 0 {
			w.put(",")
		}
		out = append(out, w.expr())
	}
	w.put(")")
	return place, out
}

func (w *writer) puts(tokens ...string) {
	for _, t := range tokens {
		w.put(t)
	}
}

func (w *writer) eqs() []api.Eq {
	var out []api.Eq
	for w.size > 0 && w.r.Intn(3) > 0 {
		out = append(out, w.eq())
		w.put(";")
	}
	return out
}

func (w *writer) block() []api.Eq {
	w.put("{")
	out := w.eqs()
	w.put("}")
	return out
}

func (w *writer) eq() api.Eq {
	switch w.r.Intn(6) {
	case 0:
		return w.der()
	case 1:
		place := w.put("reset")
		block := w.block()
		w.put("every")
		return api.Eq{Kind: api.QReset, Args: []api.Expr{w.expr()}, Blocks: [][]api.Eq{block}, Pos: place}
	case 2:
		place := w.put("present")
		args := []api.Expr{w.expr()}
		w.put("then")
		yes := w.block()
		w.put("else")
		return api.Eq{Kind: api.QPresent, Args: args, Blocks: [][]api.Eq{yes, w.block()}, Pos: place}
	case 3:
		out := api.Eq{Kind: api.QAuto, Pos: w.put("automaton")}
		for range 1 + w.r.Intn(3) {
			out.States = append(out.States, w.state())
		}
		w.put("end")
		return out
	case 4:
		a, b := w.name(), w.name()
		place := w.put("(")
		w.puts(a, ",", b, ")", "=")
		return api.Eq{Kind: api.QDef, Names: []string{a, b}, Args: []api.Expr{w.expr()}, Pos: place}
	}
	name := w.name()
	place := w.put(name)
	w.put("=")
	return api.Eq{Kind: api.QDef, Names: []string{name}, Args: []api.Expr{w.expr()}, Pos: place}
}

func (w *writer) der() api.Eq {
	place, name := w.put("der"), w.name()
	w.puts(name, "=")
	out := api.Eq{Kind: api.QDer, Names: []string{name}, Args: []api.Expr{w.expr()}, Pos: place}
	if w.r.Intn(2) == 0 {
		w.put("init")
		out.Init = []api.Expr{w.expr()}
	}
	if w.r.Intn(2) == 0 {
		w.put("reset")
		out.Again = []api.Expr{w.expr()}
		w.put("when")
		out.Again = append(out.Again, w.expr())
	}
	return out
}

func (w *writer) state() api.State {
	out := api.State{Pos: w.put("state"), Name: w.ctor()}
	w.put(out.Name)
	out.Eqs = w.block()
	for range w.r.Intn(3) {
		t := api.Trans{Pos: w.put("until"), Cond: w.expr(), Keep: w.r.Intn(2) == 0, To: w.ctor()}
		w.puts(map[bool]string{false: "then", true: "continue"}[t.Keep], t.To)
		out.Trans = append(out.Trans, t)
	}
	return out
}

func (w *writer) variable(may bool) api.Var {
	out := api.Var{Name: w.name(), Type: w.one("bool", "int", "rat", "color")}
	out.Pos = w.put(out.Name)
	w.puts(":", out.Type)
	if !may || w.r.Intn(2) == 0 {
		return out
	}
	w.put("init")
	switch w.r.Intn(4) {
	case 0:
		out.Init = []api.Expr{w.leaf(api.EBool, w.one("true", "false"))}
	case 1:
		out.Init = []api.Expr{w.leaf(api.ECtor, w.ctor())}
	case 2:
		place := w.put("-")
		out.Init = []api.Expr{{Kind: api.EUn, Name: "-", Args: []api.Expr{w.leaf(api.ENum, w.digits())}, Pos: place}}
	case 3:
		out.Init = []api.Expr{w.leaf(api.ENum, w.digits())}
	}
	return out
}

func (w *writer) variables(n int, may bool) []api.Var {
	w.put("(")
	var out []api.Var
	for range n {
		if len(out) > 0 {
			w.put(",")
		}
		out = append(out, w.variable(may))
	}
	w.put(")")
	return out
}

func (w *writer) node() api.Node {
	word := w.one("node", "hybrid")
	out := api.Node{Hybrid: word == "hybrid", Pos: w.put(word), Name: w.name()}
	w.put(out.Name)
	out.In = w.variables(w.r.Intn(3), false)
	w.put("returns")
	out.Out = w.variables(1+w.r.Intn(2), true)
	if w.r.Intn(2) == 0 {
		w.put("var")
		for range 1 + w.r.Intn(2) {
			out.Local = append(out.Local, w.variable(true))
			w.put(";")
		}
	}
	w.put("let")
	out.Eqs = w.eqs()
	w.put("tel")
	return out
}

func (w *writer) program() api.Program {
	var out api.Program
	for range 1 + w.r.Intn(3) {
		if w.r.Intn(3) > 0 {
			out.Nodes = append(out.Nodes, w.node())
			continue
		}
		e := api.Enum{Pos: w.put("type"), Name: w.name(), Ctors: []string{w.ctor()}}
		w.puts(e.Name, "=", "{", e.Ctors[0])
		for range w.r.Intn(3) {
			e.Ctors = append(e.Ctors, w.ctor())
			w.puts(",", e.Ctors[len(e.Ctors)-1])
		}
		w.puts("}", ";")
		out.Enums = append(out.Enums, e)
	}
	return out
}

// shallow tells a random program that is not too deep, and its source.
func shallow(seed int64, size int) (string, api.Program) {
	for ; ; seed += 1 << 32 {
		w := newWriter(seed, size)
		p := w.program()
		deepest := 0
		for _, n := range p.Nodes {
			for _, q := range n.Eqs {
				deepest = max(deepest, eqDepth(q))
			}
		}
		if deepest <= api.MaxDepth {
			return w.text.String(), p
		}
	}
}

// depth and eqDepth go level by level: how often all that stands there can be left for what is within it.
func depth(level ...api.Expr) int {
	n := 0
	for ; len(level) > 0; n++ {
		var inside []api.Expr
		for _, e := range level {
			inside = append(inside, e.Args...)
		}
		level = inside
	}
	return n
}

func eqDepth(level ...api.Eq) int {
	deepest := 0
	for n := 1; len(level) > 0; n++ {
		var inside []api.Eq
		var exprs []api.Expr
		for _, q := range level {
			exprs = append(append(append(exprs, q.Args...), q.Init...), q.Again...)
			for _, block := range q.Blocks {
				inside = append(inside, block...)
			}
			for _, s := range q.States {
				inside = append(inside, s.Eqs...)
				for _, t := range s.Trans {
					exprs = append(exprs, t.Cond)
				}
			}
		}
		deepest = max(deepest, n+depth(exprs...))
		level = inside
	}
	return deepest
}
