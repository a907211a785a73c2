package sim_test

import (
	"math/big"
	"math/rand"
	"reflect"
	"slices"
	"strconv"
	"strings"
	"testing"

	"foliot/api"
	"foliot/code"
	"foliot/flat"
	"foliot/parse"
	"foliot/plan"
	"foliot/ratio"
	"foliot/sim"
)

func dice(seed int64) *rand.Rand { return rand.New(rand.NewSource(seed)) }

// rat reads a number of any length; n^k is a power.
func rat(s string) api.Rat {
	if base, power, is := strings.Cut(s, "^"); is {
		b, _ := new(big.Int).SetString(base, 10)
		k, err := strconv.Atoi(power)
		if b == nil || err != nil {
			panic(s)
		}
		s = b.Exp(b, big.NewInt(int64(k)), nil).String()
	}
	r, ok := new(big.Rat).SetString(s)
	if !ok {
		panic(s)
	}
	return api.Rat{Num: api.Int{Neg: r.Sign() < 0, Mag: limbs(r.Num())}, Den: limbs(r.Denom())}
}

// limbs are those of a number, its sign aside.
func limbs(n *big.Int) []uint32 {
	var out []uint32
	for n = new(big.Int).Abs(n); n.Sign() > 0; n.Rsh(n, 32) {
		out = append(out, uint32(n.Uint64()))
	}
	return out
}

// bigNat tells limbs as a number of the library's, which the tests hold the package against.
func bigNat(limbs []uint32) *big.Int {
	n := new(big.Int)
	for _, limb := range slices.Backward(limbs) {
		n.Lsh(n, 32).Add(n, big.NewInt(int64(limb)))
	}
	return n
}

// bigOf does so with a rational number; one whose Den is 0 counts as 0.
func bigOf(a api.Rat) *big.Rat {
	num, den := bigNat(a.Num.Mag), bigNat(a.Den)
	if den.Sign() == 0 {
		return new(big.Rat)
	}
	if a.Num.Neg {
		num.Neg(num)
	}
	return new(big.Rat).SetFrac(num, den)
}

// isTold tells whether a number is as it is told: in lowest terms, without limbs that do not count, 0 without a sign.
func isTold(a api.Rat) bool {
	counts := func(l []uint32) bool { return len(l) == 0 || l[len(l)-1] != 0 }
	r := bigOf(a)
	return counts(a.Num.Mag) && counts(a.Den) && len(a.Den) > 0 && (len(a.Num.Mag) > 0 || !a.Num.Neg) &&
		new(big.Int).Abs(r.Num()).Cmp(bigNat(a.Num.Mag)) == 0 && r.Denom().Cmp(bigNat(a.Den)) == 0
}

// numberText tells a number; one that is not as it is told has a text that none has.
func numberText(a api.Rat) string {
	if !isTold(a) {
		return "bad " + bigOf(a).RatString()
	}
	return bigOf(a).RatString()
}

func isNone(a api.Rat) bool { return len(a.Num.Mag)+len(a.Den) == 0 && !a.Num.Neg }

// valueText tells a value; ? is nothing.
func valueText(v api.Value) string {
	switch {
	case v.Kind == api.VNil && isNone(v.Num) && v.Name == "":
		return "?"
	case v.Kind == api.VBool && v.Name == "" && isTold(v.Num):
		return strconv.FormatBool(bigOf(v.Num).Sign() != 0)
	case v.Kind == api.VNum && v.Name == "":
		return numberText(v.Num)
	case v.Kind == api.VCtor && isNone(v.Num):
		return v.Name
	}
	return "bad"
}

func valuesText(l []api.Value) string {
	var out []string
	for _, v := range l {
		out = append(out, valueText(v))
	}
	return strings.Join(out, " ")
}

// linesText tells lines: what each is, and by what it goes on; - is one that is not there.
func linesText(l []api.Line) string {
	var out []string
	for _, x := range l {
		switch {
		case x.On:
			out = append(out, numberText(x.V)+"+"+numberText(x.S))
		case isNone(x.V) && isNone(x.S):
			out = append(out, "-")
		default:
			out = append(out, "bad")
		}
	}
	return strings.Join(out, " ")
}

// spaced puts words together that are not empty.
func spaced(words ...string) string {
	return strings.Join(slices.DeleteFunc(words, func(s string) bool { return s == "" }), " ")
}

func atText(at api.Rat, index int) string { return numberText(at) + "." + strconv.Itoa(index) }

// traceText tells a trace in one line: of each instant its time, its index, and its outputs; and how and where the run ended.
func traceText(x api.Trace) string {
	var out strings.Builder
	for _, e := range x.Entries {
		out.WriteString(spaced(atText(e.At, e.Index), valuesText(e.Outs)) + "; ")
	}
	how := map[int]string{0: "more", api.EndDone: "done", api.EndDiv: "div", api.EndCascade: "cascade", api.EndBig: "big"}[x.End]
	return out.String() + how + " " + atText(x.At, x.Index)
}

// phaseText tells a phase: what was done, when, and the memories, states, outputs, and how states go on behind it.
func phaseText(p api.Phase) string {
	kind := map[int]string{api.PStep: "step", api.PDeriv: "deriv", api.PCross: "cross", api.PMove: "move"}[p.Kind]
	kept := strings.Join([]string{valuesText(p.Mems), valuesText(p.Conts), valuesText(p.Outs), linesText(p.Lines)}, "|")
	return kind + " " + atText(p.At, p.Index) + " " + kept
}

// phasesText tells phases, a line each.
func phasesText(l []api.Phase) string {
	var out []string
	for _, p := range l {
		out = append(out, phaseText(p))
	}
	return strings.Join(out, "\n")
}

// ran tells what Run answers, with which Log has to agree.
func ran(c api.Code, ins []string, s api.Script) string {
	got, err := sim.Run(c, ins, s)
	again, phases, errAgain := sim.Log(c, ins, s)
	if err != api.OK {
		none := reflect.DeepEqual(got, api.Trace{}) && reflect.DeepEqual(again, api.Trace{}) && len(phases) == 0
		if err != errAgain || !none {
			return "bad"
		}
		return map[api.Errno]string{api.ErrCode: "ErrCode", api.ErrScript: "ErrScript"}[err]
	}
	text := traceText(got)
	if errAgain != api.OK || text != traceText(again) {
		return "bad " + traceText(again)
	}
	return text
}

// logged tells the phases that Log answers.
func logged(c api.Code, ins []string, s api.Script) string {
	_, phases, _ := sim.Log(c, ins, s)
	return phasesText(phases)
}

// compiled is the object code of a source, and main's inputs.
func compiled(t *testing.T, src string) (api.Code, []string) {
	t.Helper()
	p, err, place := parse.Parse([]byte(src))
	if err != api.OK {
		t.Fatal(src, err, place)
	}
	f, err, place := flat.Of(p)
	if err != api.OK {
		t.Fatal(src, err, place)
	}
	return planned(t, f), f.Ins
}

func planned(t *testing.T, f api.Flat) api.Code {
	t.Helper()
	p, err := plan.Of(f)
	if err != api.OK {
		t.Fatal(f, err)
	}
	c, err := code.Of(f, p)
	if err != api.OK {
		t.Fatal(f, err)
	}
	return c
}

// scripted reads a script: its horizon, cascade and bits; and its changes, each a time, an input, a value.
func scripted(text string) api.Script {
	parts := strings.Split(text, "; ")
	l := strings.Fields(parts[0])
	cascade, err := strconv.Atoi(l[1])
	bits, errBits := strconv.Atoi(l[2])
	if err != nil || errBits != nil {
		panic(text)
	}
	s := api.Script{Horizon: rat(l[0]), Cascade: cascade, Bits: bits}
	for _, part := range parts[1:] {
		l := strings.Fields(part)
		s.Changes = append(s.Changes, api.Change{At: rat(l[0]), Input: l[1], Value: rat(l[2])})
	}
	return s
}

// val reads a value: ? is nothing, true and false are truths, a text with a large letter ahead is a constructor.
func val(s string) api.Value {
	switch {
	case s == "?":
		return api.Value{}
	case s == "true":
		return api.Value{Kind: api.VBool, Num: ratio.Of(1)}
	case s == "false":
		return api.Value{Kind: api.VBool, Num: ratio.Of(0)}
	case 'A' <= s[0] && s[0] <= 'Z':
		return api.Value{Kind: api.VCtor, Name: s}
	}
	return api.Value{Kind: api.VNum, Num: rat(s)}
}

func vals(s string) []api.Value {
	var out []api.Value
	for _, x := range strings.Fields(s) {
		out = append(out, val(x))
	}
	return out
}

// body reads instructions: of each its Op, > its Dst, < its Args, k its K, ? its Guard (else -1), ! its Resets, @ its Lit.
func body(text string) []api.Ins {
	var out []api.Ins
	for _, part := range strings.Split(text, "; ") {
		l := strings.Fields(part)
		if len(l) == 0 {
			continue
		}
		x := api.Ins{Op: l[0], Guard: -1}
		for _, f := range l[1:] {
			if f[0] == '@' {
				x.Lit = val(f[1:])
				continue
			}
			var row []int
			for _, n := range strings.Split(f[1:], ",") {
				i, err := strconv.Atoi(n)
				if err != nil {
					panic(part)
				}
				row = append(row, i)
			}
			switch f[0] {
			case '>':
				x.Dst = row[0]
			case '<':
				x.Args = row
			case 'k':
				x.K = row[0]
			case '?':
				x.Guard = row[0]
			case '!':
				x.Resets = row
			default:
				panic(part)
			}
		}
		out = append(out, x)
	}
	return out
}

// is asks what something is.
func is(t *testing.T, what, got, want string) {
	t.Helper()
	if got != want {
		t.Errorf("%.600s\ngot  %.1200s\nwant %.1200s", what, got, want)
	}
}

// forms are the ways in which a number may be handed in.
func forms(a api.Rat) []api.Rat {
	longer := func(l []uint32) []uint32 { return append(slices.Clone(l), 0, 0) }
	out := []api.Rat{a, {Num: api.Int{Neg: a.Num.Neg, Mag: longer(a.Num.Mag)}, Den: longer(a.Den)}}
	six := api.Rat{Num: api.Int{Neg: a.Num.Neg}, Den: limbs(new(big.Int).Mul(bigNat(a.Den), big.NewInt(6)))}
	if ratio.Sign(a) == 0 {
		return append(out, six, api.Rat{}, api.Rat{Num: api.Int{Neg: true}, Den: []uint32{7}}, api.Rat{Num: api.Int{Neg: true, Mag: []uint32{5}}},
			api.Rat{Num: api.Int{Mag: []uint32{1 << 31, 1}}, Den: []uint32{0}}, api.Rat{Num: api.Int{Neg: true, Mag: []uint32{0}}, Den: []uint32{0, 0}})
	}
	six.Num.Mag = limbs(new(big.Int).Mul(bigNat(a.Num.Mag), big.NewInt(6)))
	return append(out, six)
}

// tally counts what was seen.
type tally map[string]int

func (n tally) note(what string, is bool) {
	if is {
		n[what]++
	}
}

func (n tally) least(t *testing.T, least int, what ...string) {
	t.Helper()
	for _, x := range what {
		if n[x] < least {
			t.Error(x, n[x])
		}
	}
}
