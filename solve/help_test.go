package solve_test

import (
	"math/big"
	"math/rand"
	"slices"
	"strconv"
	"strings"
	"testing"

	"foliot/api"
	"foliot/ratio"
)

func dice(seed int64) *rand.Rand { return rand.New(rand.NewSource(seed)) }

// rat reads a number.
func rat(s string) api.Rat {
	r, err := ratio.Parse(s)
	if err != api.OK {
		panic(s)
	}
	return r
}

// lines reads lines: of each what it is, a comma, by what it goes on; a ~ stands ahead of one that is not On.
func lines(text string) []api.Line {
	var out []api.Line
	for _, x := range strings.Fields(text) {
		v, s, _ := strings.Cut(strings.TrimPrefix(x, "~"), ",")
		out = append(out, api.Line{On: x[0] != '~', V: rat(v), S: rat(s)})
	}
	return out
}

// line reads one.
func line(text string) api.Line { return lines(text)[0] }

// bigNat tells limbs as a number of the library's, which the tests hold the package against.
func bigNat(limbs []uint32) *big.Int {
	n := new(big.Int)
	for _, limb := range slices.Backward(limbs) {
		n.Lsh(n, 32).Add(n, big.NewInt(int64(limb)))
	}
	return n
}

// bigOf does so with a rational number; one whose Den is 0 counts as 0.
func bigOf(a api.Rat) *big.Rat {
	num, den := bigNat(a.Num.Mag), bigNat(a.Den)
	if den.Sign() == 0 {
		return new(big.Rat)
	}
	if a.Num.Neg {
		num.Neg(num)
	}
	return new(big.Rat).SetFrac(num, den)
}

// isTold tells whether a number is as it is told: in lowest terms, without limbs that do not count, 0 without a sign.
func isTold(a api.Rat) bool {
	counts := func(l []uint32) bool { return len(l) == 0 || l[len(l)-1] != 0 }
	r := bigOf(a)
	return counts(a.Num.Mag) && counts(a.Den) && len(a.Den) > 0 && (len(a.Num.Mag) > 0 || !a.Num.Neg) &&
		new(big.Int).Abs(r.Num()).Cmp(bigNat(a.Num.Mag)) == 0 && r.Denom().Cmp(bigNat(a.Den)) == 0
}

// text tells a number; one that is not as it is told has a text that none has.
func text(a api.Rat) string {
	if !isTold(a) {
		return "bad " + bigOf(a).RatString()
	}
	return bigOf(a).RatString()
}

// timeText tells a time, or - where there is none.
func timeText(a api.Rat, ok bool) string {
	switch {
	case ok:
		return text(a)
	case a.Num.Neg || len(a.Num.Mag) > 0 || len(a.Den) > 0:
		return "bad -"
	}
	return "-"
}

// marks tells truths: x of each that is true, . of others.
func marks(l []bool) string {
	out := ""
	for _, is := range l {
		if is {
			out += "x"
		} else {
			out += "."
		}
	}
	return out
}

// is asks what something is.
func is(t *testing.T, what, got, want string) {
	t.Helper()
	if got != want {
		t.Errorf("%s: got %q, want %q", what, got, want)
	}
}

// forms are the ways in which a number may be handed in.
func forms(a api.Rat) []api.Rat {
	longer := func(l []uint32) []uint32 { return append(slices.Clone(l), 0, 0) }
	out := []api.Rat{a, {Num: api.Int{Neg: a.Num.Neg, Mag: longer(a.Num.Mag)}, Den: longer(a.Den)}}
	six := api.Rat{Num: api.Int{Neg: a.Num.Neg}, Den: limbs(new(big.Int).Mul(bigNat(a.Den), big.NewInt(6)))}
	if ratio.Sign(a) == 0 {
		return append(out, six, api.Rat{}, api.Rat{Num: api.Int{Neg: true}, Den: []uint32{7}}, api.Rat{Num: api.Int{Neg: true, Mag: []uint32{5}}},
			api.Rat{Num: api.Int{Mag: []uint32{1 << 31, 1}}, Den: []uint32{0}}, api.Rat{Num: api.Int{Neg: true, Mag: []uint32{0}}, Den: []uint32{0, 0}})
	}
	six.Num.Mag = limbs(new(big.Int).Mul(bigNat(a.Num.Mag), big.NewInt(6)))
	return append(out, six)
}

// limbs are those of a number that is not below 0.
func limbs(n *big.Int) []uint32 {
	var out []uint32
	for n = new(big.Int).Set(n); n.Sign() > 0; n.Rsh(n, 32) {
		out = append(out, uint32(n.Uint64()))
	}
	return out
}

// anyNumber is one in any form; most are small, so that lines meet.
func anyNumber(r *rand.Rand) api.Rat {
	a := rat(strconv.Itoa(r.Intn(15)-7) + "/" + strconv.Itoa(1+r.Intn(4)))
	if r.Intn(8) == 0 {
		a = ratio.Mul(a, rat("340282366920938463463374607431768211455/18446744073709551557"))
	}
	l := forms(a)
	return l[r.Intn(len(l))]
}

// anyLines are lines of any numbers, some of which pass together.
func anyLines(r *rand.Rand) []api.Line {
	var out []api.Line
	for range r.Intn(7) {
		x := api.Line{On: r.Intn(6) > 0, V: anyNumber(r), S: anyNumber(r)}
		if len(out) > 0 && r.Intn(4) == 0 {
			y, by := out[r.Intn(len(out))], anyNumber(r)
			x.V, x.S = ratio.Mul(y.V, by), ratio.Mul(y.S, by)
		}
		out = append(out, x)
	}
	return out
}
