package integer_test

import (
	"encoding/binary"
	"math/big"
	"math/rand"
	"slices"
	"testing"

	"foliot/api"
)

// bigOf tells an integer as a number of the library's, which the tests hold the package against.
func bigOf(a api.Int) *big.Int {
	var bytes []byte
	for _, limb := range slices.Backward(a.Mag) {
		bytes = binary.BigEndian.AppendUint32(bytes, limb)
	}
	n := new(big.Int).SetBytes(bytes)
	if a.Neg {
		n.Neg(n)
	}
	return n
}

// intOf tells the library's number as it is told.
func intOf(n *big.Int) api.Int {
	bytes := n.Bytes()
	bytes = append(make([]byte, (4-len(bytes)%4)%4), bytes...)
	out := api.Int{Neg: n.Sign() < 0}
	for ; len(bytes) > 0; bytes = bytes[:len(bytes)-4] {
		out.Mag = append(out.Mag, binary.BigEndian.Uint32(bytes[len(bytes)-4:]))
	}
	return out
}

// number tells the library's number of a text.
func number(t *testing.T, s string) *big.Int {
	t.Helper()
	n, ok := new(big.Int).SetString(s, 10)
	if !ok {
		t.Fatalf("%q is no number", s)
	}
	return n
}

// same tells whether two are the same sign and limbs: one that is not as it is told is another.
func same(a, b api.Int) bool { return a.Neg == b.Neg && slices.Equal(a.Mag, b.Mag) }

// want holds an answer against a number.
func want(t *testing.T, what string, got api.Int, n *big.Int) {
	t.Helper()
	if !same(got, intOf(n)) {
		t.Fatalf("%s: got %v, want %v", what, got, intOf(n))
	}
}

// edges are integers at which limbs, signs and int64 turn over, of both sides.
func edges() []api.Int {
	out := []api.Int{{}}
	add := func(n *big.Int) {
		out = append(out, intOf(n), intOf(new(big.Int).Neg(n)))
	}
	for _, n := range []int64{1, 2, 3, 7, 10, 1000000007} {
		add(big.NewInt(n))
	}
	for _, shift := range []uint{31, 32, 33, 63, 64, 65, 95, 96, 128, 300} {
		power := new(big.Int).Lsh(big.NewInt(1), shift)
		for d := int64(-2); d <= 2; d++ {
			add(new(big.Int).Add(power, big.NewInt(d)))
		}
	}
	return out
}

// forms tells an integer in the ways in which it may be handed in: as it is told, with limbs that do not count, and 0 as one that is said to be below 0.
func forms(a api.Int) []api.Int {
	out := []api.Int{a, {Neg: a.Neg, Mag: append(slices.Clone(a.Mag), 0, 0, 0)}}
	if len(a.Mag) == 0 {
		out = append(out, api.Int{Neg: true}, api.Int{Neg: true, Mag: []uint32{}}, api.Int{Neg: true, Mag: []uint32{0}}, api.Int{Neg: true, Mag: []uint32{0, 0, 0}})
	}
	return out
}

// random makes integers from a fixed seed, so that a failure comes again.
func random(r *rand.Rand, limbs int) api.Int {
	a := api.Int{Neg: r.Intn(2) == 0, Mag: make([]uint32, r.Intn(limbs+1))}
	for i := range a.Mag {
		// Limbs of noughts or of ones alone are where carries go far.
		switch r.Intn(4) {
		case 0:
		case 1:
			a.Mag[i] = 1<<32 - 1
		default:
			a.Mag[i] = r.Uint32()
		}
	}
	return a
}

// pairs calls f with many pairs of integers, not all of them as they are told.
func pairs(f func(a, b api.Int)) {
	var l []api.Int
	for _, a := range edges() {
		l = append(l, forms(a)...)
	}
	for _, a := range l {
		for _, b := range l {
			f(a, b)
		}
	}
	r := rand.New(rand.NewSource(1))
	for range 4000 {
		f(random(r, 8), random(r, 5))
	}
}
