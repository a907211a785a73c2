package trace_test

import (
	"math/big"
	"math/rand"
	"reflect"
	"slices"
	"strconv"
	"strings"
	"testing"

	"foliot/api"
	"foliot/ratio"
	"foliot/trace"
)

func dice(seed int64) *rand.Rand { return rand.New(rand.NewSource(seed)) }

// rat reads a number of any length.
func rat(s string) api.Rat {
	r, ok := new(big.Rat).SetString(s)
	if !ok {
		panic(s)
	}
	return api.Rat{Num: api.Int{Neg: r.Sign() < 0, Mag: limbs(r.Num())}, Den: limbs(r.Denom())}
}

// limbs are those of a number, its sign aside.
func limbs(n *big.Int) []uint32 {
	var out []uint32
	for n = new(big.Int).Abs(n); n.Sign() > 0; n.Rsh(n, 32) {
		out = append(out, uint32(n.Uint64()))
	}
	return out
}

// bigNat tells limbs as a number of the library's, which the tests hold the package against.
func bigNat(limbs []uint32) *big.Int {
	n := new(big.Int)
	for _, limb := range slices.Backward(limbs) {
		n.Lsh(n, 32).Add(n, big.NewInt(int64(limb)))
	}
	return n
}

// bigOf does so with a rational number; one whose Den is 0 counts as 0.
func bigOf(a api.Rat) *big.Rat {
	num, den := bigNat(a.Num.Mag), bigNat(a.Den)
	if den.Sign() == 0 {
		return new(big.Rat)
	}
	if a.Num.Neg {
		num.Neg(num)
	}
	return new(big.Rat).SetFrac(num, den)
}

// isTold tells whether a number is as it is told: in lowest terms, without limbs that do not count, 0 without a sign.
func isTold(a api.Rat) bool {
	counts := func(l []uint32) bool { return len(l) == 0 || l[len(l)-1] != 0 }
	r := bigOf(a)
	return counts(a.Num.Mag) && counts(a.Den) && len(a.Den) > 0 && (len(a.Num.Mag) > 0 || !a.Num.Neg) &&
		new(big.Int).Abs(r.Num()).Cmp(bigNat(a.Num.Mag)) == 0 && r.Denom().Cmp(bigNat(a.Den)) == 0
}

// numberText tells a number; one that is not as it is told has a text that none has.
func numberText(a api.Rat) string {
	if !isTold(a) {
		return "bad " + bigOf(a).RatString()
	}
	return bigOf(a).RatString()
}

// told tells a trace in one line: its entries, and how, where and at which index it ended. A value is told by its kind.
func told(t api.Trace) string {
	var out []string
	for _, e := range t.Entries {
		words := []string{numberText(e.At), strconv.Itoa(e.Index)}
		for _, v := range e.Outs {
			words = append(words, valueTold(v))
		}
		out = append(out, strings.Join(words, " "))
	}
	return strings.Join(append(out, "end "+strconv.Itoa(t.End)+" "+numberText(t.At)+" "+strconv.Itoa(t.Index)), "; ")
}

// valueTold tells a value by its kind; what has no meaning there is to be as it is told where there is none.
func valueTold(v api.Value) string {
	isNone := len(v.Num.Num.Mag) == 0 && len(v.Num.Den) == 0 && !v.Num.Num.Neg
	switch {
	case v.Kind == api.VNil && isNone && v.Name == "":
		return "nil"
	case v.Kind == api.VBool && v.Name == "":
		return "bool:" + numberText(v.Num)
	case v.Kind == api.VNum && v.Name == "":
		return "num:" + numberText(v.Num)
	case v.Kind == api.VCtor && isNone:
		return "ctor:" + v.Name
	}
	return "bad"
}

// decoded tells what Decode answers: the trace, or ErrForm.
func decoded(text string) string {
	t, err := trace.Decode([]byte(text))
	switch {
	case err == api.OK:
		return told(t)
	case err == api.ErrForm && reflect.DeepEqual(t, api.Trace{}):
		return "ErrForm"
	}
	return "bad"
}

// encoded tells what Encode answers: the text, or ErrArg; Right has to say the same.
func encoded(t api.Trace) string {
	b, err := trace.Encode(t)
	right := trace.Right(t)
	switch {
	case err == api.OK && right:
		return string(b)
	case err == api.ErrArg && len(b) == 0 && !right:
		return "ErrArg"
	}
	return "bad"
}

// is asks what something is.
func is(t *testing.T, what, got, want string) {
	t.Helper()
	if got != want {
		t.Errorf("%.300q: got %.300q, want %.300q", what, got, want)
	}
}

func oneIf(is bool, yes, no string) string {
	if is {
		return yes
	}
	return no
}

// nines, tens: of n digits the greatest number, and the least.
func nines(n int) string { return strings.Repeat("9", n) }
func tens(n int) string  { return "1" + strings.Repeat("0", n-1) }

// num, truth and ctor are values.
func num(s string) api.Value         { return api.Value{Kind: api.VNum, Num: rat(s)} }
func truth(s string) api.Value       { return api.Value{Kind: api.VBool, Num: rat(s)} }
func ctor(name string) api.Value     { return api.Value{Kind: api.VCtor, Name: name} }
func row(v ...api.Value) []api.Value { return v }

// forms are the ways in which a number may be handed in.
func forms(a api.Rat) []api.Rat {
	longer := func(l []uint32) []uint32 { return append(slices.Clone(l), 0, 0) }
	out := []api.Rat{a, {Num: api.Int{Neg: a.Num.Neg, Mag: longer(a.Num.Mag)}, Den: longer(a.Den)}}
	six := api.Rat{Num: api.Int{Neg: a.Num.Neg}, Den: limbs(new(big.Int).Mul(bigNat(a.Den), big.NewInt(6)))}
	if ratio.Sign(a) == 0 {
		return append(out, six, api.Rat{}, api.Rat{Num: api.Int{Neg: true}, Den: []uint32{7}}, api.Rat{Num: api.Int{Neg: true, Mag: []uint32{5}}},
			api.Rat{Num: api.Int{Mag: []uint32{1 << 31, 1}}, Den: []uint32{0}}, api.Rat{Num: api.Int{Neg: true, Mag: []uint32{0}}, Den: []uint32{0, 0}})
	}
	six.Num.Mag = limbs(new(big.Int).Mul(bigNat(a.Num.Mag), big.NewInt(6)))
	return append(out, six)
}

// tally counts what was seen.
type tally map[string]int

func (n tally) note(what string, is bool) {
	if is {
		n[what]++
	}
}

func (n tally) least(t *testing.T, least int, what ...string) {
	t.Helper()
	for _, x := range what {
		if n[x] < least {
			t.Error(x, n[x])
		}
	}
}
