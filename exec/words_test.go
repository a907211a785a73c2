package exec_test

import (
	"math/big"
	"strings"

	"foliot/api"
)

// word is a value by the library's numbers.
type word struct {
	kind int
	num  *big.Rat
	name string
}

// wline is a value, and by what it goes on.
type wline struct{ v, s word }

// words is a machine by the words of chapters 12 and 17 alone.
type words struct {
	c                        api.Code
	slots, mems, conts, outs []word
	goes                     []bool // of states
	by                       []word
	lines                    []wline
	again                    bool
	bits                     int
	div, big                 bool
}

func wordOf(v api.Value) word { return word{v.Kind, bigOf(v.Num), v.Name} }

func wordsOf(l []api.Value) []word {
	var out []word
	for _, v := range l {
		out = append(out, wordOf(v))
	}
	return out
}

func newWords(c api.Code) *words {
	n := len(c.Conts)
	return &words{c: c, slots: make([]word, c.Slots), mems: wordsOf(c.Mems), conts: wordsOf(c.Conts), outs: make([]word, c.Outs), goes: make([]bool, n), by: make([]word, n)}
}

func (w *words) truth(is bool) word {
	if is {
		return word{api.VBool, big.NewRat(1, 1), ""}
	}
	return word{api.VBool, new(big.Rat), ""}
}

func (x word) is() bool { return x.kind == api.VBool && x.num.Sign() != 0 }

func (x word) isNumber() bool { return x.kind == api.VNum }

// computed is a number that is asked for its bits.
func (w *words) computed(r *big.Rat) word {
	if r.Num().BitLen() > w.bits || r.Denom().BitLen() > w.bits {
		w.big = true
		return word{}
	}
	return word{api.VNum, r, ""}
}

func floorOf(r *big.Rat) *big.Rat {
	// A Denom is above 0, and there Euclid's quotient is the one that is rounded down.
	return new(big.Rat).SetInt(new(big.Int).Div(r.Num(), r.Denom()))
}

func (w *words) op(name string, l ...word) word {
	switch name {
	case "gand":
		all := true
		for _, x := range l {
			all = all && x.is()
		}
		return w.truth(all)
	case "mrg":
		for i := 0; i+1 < len(l); i += 2 {
			if l[i].is() {
				return l[i+1]
			}
		}
		if len(l)%2 == 1 {
			return l[len(l)-1]
		}
		return word{}
	case "sel":
		if l[0].kind == api.VNil {
			return word{}
		}
		if l[0].is() {
			return l[1]
		}
		return l[2]
	}
	for _, x := range l {
		if x.kind == api.VNil {
			return word{}
		}
	}
	if len(l) == 1 {
		return w.one(name, l[0])
	}
	return w.two(name, l[0], l[1])
}

func (w *words) one(name string, a word) word {
	switch name {
	case "not":
		return w.truth(!a.is())
	case "neg":
		return w.computed(new(big.Rat).Neg(a.num))
	case "floor":
		return w.computed(floorOf(a.num))
	case "rat":
		return w.computed(a.num)
	}
	return a
}

func (w *words) two(name string, a, b word) word {
	r := new(big.Rat)
	switch name {
	case "+":
		return w.computed(r.Add(a.num, b.num))
	case "-":
		return w.computed(r.Sub(a.num, b.num))
	case "*":
		return w.computed(r.Mul(a.num, b.num))
	case "/", "div", "mod":
		if b.num.Sign() == 0 {
			w.div = true
			return word{}
		}
		q := r.Quo(a.num, b.num)
		switch name {
		case "div":
			q = floorOf(q)
		case "mod":
			q = new(big.Rat).Mul(floorOf(q), b.num)
			q.Sub(a.num, q)
		}
		return w.computed(q)
	case "and":
		return w.truth(a.is() && b.is())
	case "or":
		return w.truth(a.is() || b.is())
	case "==", "!=":
		same := a.kind == b.kind && a.num.Cmp(b.num) == 0
		if a.kind == api.VCtor && b.kind == api.VCtor {
			same = a.name == b.name
		}
		return w.truth(same == (name == "=="))
	}
	c := a.num.Cmp(b.num)
	return w.truth(c < 0 && name[0] == '<' || c > 0 && name[0] == '>' || c == 0 && strings.HasSuffix(name, "="))
}

func (w *words) on(x api.Ins) bool { return x.Guard < 0 || w.slots[x.Guard].is() }

func (w *words) begins(x api.Ins) bool {
	is := false
	for _, s := range x.Resets {
		is = is || w.slots[s].is()
	}
	return is
}

func (w *words) args(l []int) []word {
	var out []word
	for _, s := range l {
		out = append(out, w.slots[s])
	}
	return out
}

func (w *words) step(in []api.Rat, flags []bool, bits int) (bool, bool) {
	w.bits, w.div, w.big, w.again = bits, false, false, false
	w.outs = make([]word, w.c.Outs)
	for _, x := range w.c.Step {
		on := w.on(x)
		switch x.Op {
		case "keep":
			if on {
				w.mems[x.K] = w.slots[x.Args[0]]
			} else if w.begins(x) {
				w.mems[x.K] = wordOf(w.c.Mems[x.K])
			}
		case "state":
			if on {
				w.conts[x.K] = w.slots[x.Args[0]]
			} else if w.begins(x) {
				w.conts[x.K] = wordOf(w.c.Conts[x.K])
			}
		case "out":
			if on {
				w.outs[x.K] = w.slots[x.Args[0]]
			}
		case "again":
			if on && w.slots[x.Args[0]].is() {
				w.again = true
			}
		default:
			v := word{}
			if on {
				v = w.equation(x, in, flags)
			}
			w.slots[x.Dst] = v
		}
	}
	return w.div, w.big
}

func (w *words) equation(x api.Ins, in []api.Rat, flags []bool) word {
	switch x.Op {
	case "lit":
		if x.Lit.Kind == api.VNum {
			return w.computed(bigOf(x.Lit.Num))
		}
		return wordOf(x.Lit)
	case "in":
		if x.K < len(in) {
			return w.computed(bigOf(in[x.K]))
		}
		return w.computed(new(big.Rat))
	case "flag":
		return w.truth(x.K < len(flags) && flags[x.K])
	case "mem":
		if w.begins(x) {
			return wordOf(w.c.Mems[x.K])
		}
		return w.mems[x.K]
	case "cont":
		if w.begins(x) {
			return wordOf(w.c.Conts[x.K])
		}
		return w.conts[x.K]
	}
	return w.op(x.Op, w.args(x.Args)...)
}

func (w *words) deriv() {
	for k := range w.goes {
		w.goes[k] = false
	}
	for _, x := range w.c.Deriv {
		if !w.on(x) {
			continue
		}
		w.goes[x.K], w.by[x.K] = true, word{api.VNum, new(big.Rat), ""}
		for i := 0; i < len(x.Args); i += 2 {
			if w.on(api.Ins{Guard: x.Args[i]}) {
				w.by[x.K] = w.slots[x.Args[i+1]]
				break
			}
		}
	}
}

func (w *words) cross(bits int) ([]wline, bool, bool) {
	w.bits, w.div, w.big = bits, false, false
	w.lines = make([]wline, w.c.Lines)
	asked := make([]wline, w.c.Crosses)
	for _, x := range w.c.Cross {
		switch {
		case x.Op == "ask":
			if w.on(x) {
				asked[x.K] = w.lines[x.Args[0]]
			}
		case w.on(x):
			w.lines[x.Dst] = w.line(x)
		default:
			w.lines[x.Dst] = wline{}
		}
	}
	return asked, w.div, w.big
}

func (w *words) line(x api.Ins) wline {
	nought := word{api.VNum, new(big.Rat), ""}
	at := func(i int) wline { return w.lines[x.Args[i]] }
	both := func(op string, a, b, c, d word) wline { return wline{w.op(op, a, b), w.op(op, c, d)} }
	switch x.Op {
	case "lvar":
		return wline{w.slots[x.Args[0]], nought}
	case "lcont":
		if w.goes[x.K] {
			return wline{w.conts[x.K], w.by[x.K]}
		}
		return wline{w.conts[x.K], nought}
	case "lneg":
		return wline{w.op("neg", at(0).v), w.op("neg", at(0).s)}
	case "lsel":
		by := w.slots[x.Args[0]]
		return wline{w.op("sel", by, at(1).v, at(2).v), w.op("sel", by, at(1).s, at(2).s)}
	case "l/":
		return both("/", at(0).v, at(1).v, at(0).s, at(1).v)
	case "l*":
		if x.K == 1 {
			return both("*", at(0).v, at(1).v, at(0).s, at(1).v)
		}
		return both("*", at(0).v, at(1).v, at(0).v, at(1).s)
	}
	return both(x.Op[1:], at(0).v, at(1).v, at(0).s, at(1).s)
}

func (w *words) move(dt api.Rat, bits int) bool {
	w.bits, w.big = bits, false
	conts := append([]word(nil), w.conts...)
	for k, v := range w.conts {
		if w.goes[k] && v.isNumber() && w.by[k].isNumber() {
			by := new(big.Rat).Mul(w.by[k].num, bigOf(dt))
			conts[k] = w.computed(by.Add(by, v.num))
		}
	}
	if w.big {
		return false
	}
	w.conts = conts
	return true
}

// states are the lines of states that go on.
func (w *words) states() []wline {
	out := make([]wline, len(w.conts))
	for k, v := range w.conts {
		if w.goes[k] {
			out[k] = wline{v, w.by[k]}
		}
	}
	return out
}

func (x word) text() string {
	switch x.kind {
	case api.VNil:
		return "?"
	case api.VBool:
		return map[string]string{"0": "false", "1": "true"}[x.num.RatString()]
	case api.VCtor:
		if x.num.Sign() != 0 {
			return x.name + "=" + x.num.RatString()
		}
		return x.name
	}
	return x.num.RatString()
}

func wordTexts(l []word) string {
	var out []string
	for _, x := range l {
		out = append(out, x.text())
	}
	return strings.Join(out, " ")
}

func wordLines(l []wline) string {
	var out []string
	for _, x := range l {
		text := "-"
		if x.v.isNumber() && x.s.isNumber() {
			text = x.v.text() + "+" + x.s.text()
		}
		out = append(out, text)
	}
	return strings.Join(out, " ")
}

// kept tells all that is kept, as of a machine.
func (w *words) kept() string {
	again := ""
	if w.again {
		again = " again"
	}
	return wordTexts(w.outs) + again + "; " + wordTexts(w.mems) + "; " + wordTexts(w.conts) + "; " + wordLines(w.states())
}
