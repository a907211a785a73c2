package code_test

import (
	"math/rand"
	"reflect"
	"strconv"
	"strings"
	"testing"

	"foliot/api"
	"foliot/code"
	"foliot/plan"
)

func dice(seed int64) *rand.Rand { return rand.New(rand.NewSource(seed)) }

// eq is an equation without a guard.
func eq(v int, op string, args ...int) api.FEq {
	return api.FEq{Var: v, Op: op, Args: args, Guard: -1}
}

// reads is an equation that reads something.
func reads(v int, op string, k int) api.FEq { return api.FEq{Var: v, Op: op, K: k, Guard: -1} }

// guarded is an equation with a guard.
func guarded(q api.FEq, guard int) api.FEq {
	q.Guard = guard
	return q
}

// flatOf is a flat program of these equations.
func flatOf(eqs ...api.FEq) api.Flat {
	return api.Flat{Names: make([]string, len(eqs)), Eqs: eqs}
}

// apart is a plan of a flat program in which the variables, from the least on, lie in slots of their own: 10, 11, ..; they go in this order.
func apart(order ...int) api.Plan {
	p := api.Plan{Order: order, Slots: 10 + len(order)}
	for v := range order {
		p.Slot = append(p.Slot, 10+v)
	}
	return p
}

// coded asks for the object code of a flat program by a plan that is right for it.
func coded(t *testing.T, f api.Flat, p api.Plan) api.Code {
	t.Helper()
	c, err := code.Of(f, p)
	if err != api.OK || !plan.Right(f, p) {
		t.Fatalf("%v, %v: %v, %v", f, p, err, plan.Right(f, p))
	}
	return c
}

func texts(l []int) string {
	var out []string
	for _, i := range l {
		out = append(out, strconv.Itoa(i))
	}
	return strings.Join(out, ",")
}

// textOf tells a body: of each instruction what is not zero, but for its Lit (a Guard: what is not -1).
func textOf(body []api.Ins) string {
	var out []string
	for _, x := range body {
		text := x.Op
		put := func(what, number string, is bool) {
			if is {
				text += " " + what + number
			}
		}
		put(">", strconv.Itoa(x.Dst), x.Dst != 0)
		put("<", texts(x.Args), len(x.Args) > 0)
		put("k", strconv.Itoa(x.K), x.K != 0)
		put("?", strconv.Itoa(x.Guard), x.Guard != -1)
		put("!", texts(x.Resets), len(x.Resets) > 0)
		out = append(out, text)
	}
	return strings.Join(out, "; ")
}

// is asks what a body is.
func is(t *testing.T, what string, body []api.Ins, want string) {
	t.Helper()
	if got := textOf(body); got != want {
		t.Errorf("%s\ngot  %s\nwant %s", what, got, want)
	}
}

// same asks whether two object codes are the same; a list that is empty may be nil.
func same(a, b api.Code) bool { return reflect.DeepEqual(plain(a), plain(b)) }

// plain is object code in which lists that are empty are nil.
func plain(c api.Code) api.Code {
	body := func(l []api.Ins) []api.Ins {
		var out []api.Ins
		for _, x := range l {
			x.Args, x.Resets = append([]int(nil), x.Args...), append([]int(nil), x.Resets...)
			out = append(out, x)
		}
		return out
	}
	c.Step, c.Deriv, c.Cross = body(c.Step), body(c.Deriv), body(c.Cross)
	c.Mems, c.Conts = append([]api.Value(nil), c.Mems...), append([]api.Value(nil), c.Conts...)
	return c
}

// wordsOf tells the object code a second time, by the words of the chapter alone.
func wordsOf(f api.Flat, p api.Plan) api.Code {
	c := api.Code{Ins: len(f.Ins), Outs: len(f.Outs), Slots: max(0, p.Slots), Crosses: len(f.Cross)}
	s := func(v int) int {
		if v < 0 {
			return -1
		}
		return p.Slot[v]
	}
	all := func(by func(int) int, l []int) (out []int) {
		for _, v := range l {
			out = append(out, by(v))
		}
		return out
	}
	for _, v := range p.Order {
		for _, q := range f.Eqs {
			if q.Var != v {
				continue
			}
			x := api.Ins{Op: q.Op, Dst: s(v), Args: all(s, q.Args), Guard: s(q.Guard)}
			if strings.Contains("in mem cont flag", q.Op) {
				x.K = q.K
			}
			if q.Op == "lit" {
				x.Lit = q.Lit
			}
			if q.Op == "mem" {
				x.Resets = all(s, f.Mems[q.K].Resets)
			}
			if q.Op == "cont" {
				x.Resets = all(s, f.Conts[q.K].Resets)
			}
			c.Step = append(c.Step, x)
		}
	}
	for i, m := range f.Mems {
		c.Mems = append(c.Mems, m.Init)
		c.Step = append(c.Step, api.Ins{Op: "keep", K: i, Args: []int{s(m.Next)}, Guard: s(m.Guard), Resets: all(s, m.Resets)})
	}
	for i, x := range f.Conts {
		c.Conts = append(c.Conts, x.Init)
		c.Step = append(c.Step, api.Ins{Op: "state", K: i, Args: []int{s(x.Var)}, Guard: s(x.Guard), Resets: all(s, x.Resets)})
		d := api.Ins{Op: "slope", K: i, Guard: s(x.Guard)}
		for _, y := range x.Slopes {
			d.Args = append(d.Args, s(y.Guard), s(y.Var))
		}
		c.Deriv = append(c.Deriv, d)
	}
	for i, v := range f.Outs {
		c.Step = append(c.Step, api.Ins{Op: "out", K: i, Args: []int{s(v)}, Guard: -1})
	}
	for _, v := range f.Again {
		c.Step = append(c.Step, api.Ins{Op: "again", Args: []int{s(v)}, Guard: -1})
	}
	for i, x := range f.Cross {
		ahead := c.Lines
		line := func(k int) int { return ahead + k }
		for _, op := range x.Ops {
			y := api.Ins{Op: "l" + op.Op, Dst: c.Lines, Guard: s(x.Guard)}
			switch op.Op {
			case "var":
				y.Args = all(s, op.Args)
			case "cont":
				y.K = op.Args[0]
			case "sel":
				y.Args = []int{s(op.Args[0]), line(op.Args[1]), line(op.Args[2])}
			case "*":
				y.Args, y.K = []int{line(op.Args[0]), line(op.Args[1])}, op.Args[2]
			default:
				y.Args = all(line, op.Args)
			}
			c.Cross = append(c.Cross, y)
			c.Lines++
		}
		c.Cross = append(c.Cross, api.Ins{Op: "ask", K: i, Args: []int{c.Lines - 1}, Guard: s(x.Guard)})
	}
	return c
}
