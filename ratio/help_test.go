package ratio_test

import (
	"math/big"
	"math/rand"
	"slices"
	"testing"

	"foliot/api"
	"foliot/ratio"
)

// bigNat tells limbs as a number of the library's, which the tests hold the package against.
func bigNat(limbs []uint32) *big.Int {
	n := new(big.Int)
	for _, limb := range slices.Backward(limbs) {
		n.Lsh(n, 32).Add(n, big.NewInt(int64(limb)))
	}
	return n
}

// bigInt does so with an integer.
func bigInt(a api.Int) *big.Int {
	n := bigNat(a.Mag)
	if a.Neg {
		n.Neg(n)
	}
	return n
}

// bigOf does so with a rational number; one whose Den is 0 counts as 0.
func bigOf(a api.Rat) *big.Rat {
	den := bigNat(a.Den)
	if den.Sign() == 0 {
		return new(big.Rat)
	}
	return new(big.Rat).SetFrac(bigInt(a.Num), den)
}

// limbsOf tells the limbs of what the library's number is above 0 or below it.
func limbsOf(n *big.Int) []uint32 {
	var out []uint32
	for n = new(big.Int).Abs(n); n.Sign() > 0; n.Rsh(n, 32) {
		out = append(out, uint32(n.Uint64()))
	}
	return out
}

// intOf tells the library's integer as it is told.
func intOf(n *big.Int) api.Int { return api.Int{Neg: n.Sign() < 0, Mag: limbsOf(n)} }

// ratOf tells the library's rational number as it is told.
func ratOf(r *big.Rat) api.Rat { return api.Rat{Num: intOf(r.Num()), Den: limbsOf(r.Denom())} }

// number tells the library's number of a text.
func number(t *testing.T, s string) *big.Rat {
	t.Helper()
	r, ok := new(big.Rat).SetString(s)
	if !ok {
		t.Fatalf("%q is no number", s)
	}
	return r
}

// fraction tells num / den as it is told.
func fraction(num, den int64) api.Rat { return ratOf(big.NewRat(num, den)) }

func sameInt(a, b api.Int) bool { return a.Neg == b.Neg && slices.Equal(a.Mag, b.Mag) }

// same tells whether two are the same sign and limbs: one that is not as it is told is another.
func same(a, b api.Rat) bool { return sameInt(a.Num, b.Num) && slices.Equal(a.Den, b.Den) }

// want holds an answer against a number.
func want(t *testing.T, what string, got api.Rat, r *big.Rat) {
	t.Helper()
	if !same(got, ratOf(r)) {
		t.Fatalf("%s: got %v, want %v", what, got, ratOf(r))
	}
}

// none is what is told beside an error.
func none(a api.Rat) bool {
	return !a.Num.Neg && len(a.Num.Mag) == 0 && len(a.Den) == 0
}

// edges are numbers at which limbs and signs turn over, above or below a line.
func edges() []api.Rat {
	parts := []*big.Int{big.NewInt(1), big.NewInt(2), big.NewInt(3), big.NewInt(7), big.NewInt(12)}
	for _, shift := range []uint{32, 64, 130} {
		power := new(big.Int).Lsh(big.NewInt(1), shift)
		parts = append(parts, power, new(big.Int).Sub(power, big.NewInt(1)))
	}
	out := []api.Rat{fraction(0, 1)}
	for _, num := range parts {
		for _, den := range parts {
			r := new(big.Rat).SetFrac(num, den)
			out = append(out, ratOf(r), ratOf(r.Neg(r)))
		}
	}
	return out
}

// times tells a number with Num and Den so often as great: another form of the same number.
func times(a api.Rat, k *big.Int) api.Rat {
	num, den := bigInt(a.Num), bigNat(a.Den)
	return api.Rat{Num: intOf(num.Mul(num, k)), Den: limbsOf(den.Mul(den, k))}
}

// padded tells a number with limbs that do not count.
func padded(a api.Rat) api.Rat {
	num := api.Int{Neg: a.Num.Neg, Mag: append(slices.Clone(a.Num.Mag), 0, 0)}
	return api.Rat{Num: num, Den: append(slices.Clone(a.Den), 0)}
}

// noughts are the ways in which 0 may be handed in: of a Num that is 0, and of a Den that is 0.
func noughts() []api.Rat {
	return []api.Rat{
		{}, {Den: []uint32{1}}, {Den: []uint32{6, 0}}, {Num: api.Int{Neg: true}, Den: []uint32{5}},
		{Num: api.Int{Neg: true, Mag: []uint32{0, 0}}, Den: []uint32{0, 3}},
		{Num: api.Int{Neg: true}}, {Num: api.Int{Mag: []uint32{5}}}, {Num: api.Int{Neg: true, Mag: []uint32{1, 2, 3}}},
		{Num: api.Int{Mag: []uint32{5}}, Den: []uint32{0}}, {Num: api.Int{Neg: true, Mag: []uint32{7}}, Den: []uint32{0, 0, 0}},
	}
}

// forms tells a number in the ways in which it may be handed in.
func forms(a api.Rat) []api.Rat {
	if len(a.Num.Mag) == 0 {
		return append(noughts(), a)
	}
	return []api.Rat{a, padded(a), padded(times(a, big.NewInt(12))), times(a, new(big.Int).Lsh(big.NewInt(3), 64))}
}

// random makes numbers from a fixed seed, so that a failure comes again; many of them are not as they are told.
func random(r *rand.Rand, limbs int) api.Rat {
	part := func() []uint32 {
		out := make([]uint32, r.Intn(limbs+1))
		for i := range out {
			// Limbs of noughts or of ones alone are where carries go far; small ones have divisors in common.
			out[i] = []uint32{0, 1<<32 - 1, uint32(r.Intn(13)), r.Uint32()}[r.Intn(4)]
		}
		return out
	}
	return api.Rat{Num: api.Int{Neg: r.Intn(2) == 0, Mag: part()}, Den: part()}
}

// pairs calls f with many pairs of numbers, many of them not as they are told.
func pairs(f func(a, b api.Rat)) {
	l := edges()
	for i, a := range l {
		for _, b := range l {
			f(a, b)
		}
		for _, form := range forms(a) {
			for _, b := range []api.Rat{form, l[len(l)-1-i], padded(l[(i+5)%len(l)]), noughts()[i%10]} {
				f(form, b)
				f(b, form)
			}
		}
	}
	r := rand.New(rand.NewSource(1))
	for range 4000 {
		f(random(r, 5), random(r, 4))
	}
}

// parse tells the number of a text that must be one.
func parse(t *testing.T, s string) api.Rat {
	t.Helper()
	a, err := ratio.Parse(s)
	if err != api.OK {
		t.Fatalf("Parse(%q): %d", s, err)
	}
	return a
}
