package nat_test

import (
	"math/big"
	"slices"
	"testing"

	"foliot/nat"
)

// bigOf tells a row of limbs as a number of the library's, which the tests hold the package against.
func bigOf(a []uint32) *big.Int {
	n := new(big.Int)
	for i := len(a) - 1; i >= 0; i-- {
		n.Lsh(n, 32)
		n.Or(n, new(big.Int).SetUint64(uint64(a[i])))
	}
	return n
}

// limbsOf tells the library's number as it is told: no limbs that are 0 at the end.
func limbsOf(n *big.Int) []uint32 {
	var out []uint32
	low := new(big.Int).SetUint64(1<<32 - 1)
	for n = new(big.Int).Set(n); n.Sign() > 0; n.Rsh(n, 32) {
		out = append(out, uint32(new(big.Int).And(n, low).Uint64()))
	}
	return out
}

// digits tells the limbs of a number in radix 10.
func digits(t *testing.T, s string) []uint32 {
	t.Helper()
	n, ok := new(big.Int).SetString(s, 10)
	if !ok {
		t.Fatalf("%q is no number", s)
	}
	return limbsOf(n)
}

// want holds an answer against a number, limb by limb: one that is not trimmed is wrong.
func want(t *testing.T, what string, got []uint32, n *big.Int) {
	t.Helper()
	if l := limbsOf(n); !slices.Equal(got, l) {
		t.Fatalf("%s: got %x, want %x", what, got, l)
	}
}

// edges are numbers at which limbs, carries and guesses turn over.
func edges() [][]uint32 {
	const m = 1<<32 - 1
	const h = 1 << 31
	return [][]uint32{
		nil, {1}, {2}, {3}, {9}, {10}, {999999999}, {1000000000}, {h - 1}, {h}, {m - 1}, {m},
		{0, 1}, {1, 1}, {m, 1}, {0, h}, {m, h - 1}, {m, m}, {0, m}, {1, m},
		{0, 0, 1}, {1, 0, 1}, {0, 1, 1}, {m, m, m}, {0, 0, h}, {m, 0, h}, {0, m, h}, {m, m, h - 1},
		{0, h - 1, h}, {3, 0, h}, {0, 0, m}, {1, 0, m, 1}, {0, 0, 0, 1}, {3, 0, 0, h}, {m, m, m, m},
		{0, m - 1, h}, {0, 0, h, h - 1}, {0, m, m - 1, h - 1}, {0, 0, 0, 0, 1}, {m, 0, m, 0, m},
		{5, 0, 0, 0, 0, 0, 7}, {0, 0, 0, m, m, m, h}, {m, m, m, m, m, m, m, m},
	}
}

// source makes numbers from a fixed seed, so that a failure comes again.
type source uint64

func (s *source) next() uint64 {
	*s = *s*6364136223846793005 + 1442695040888963407
	x := uint64(*s)
	return x ^ x>>29
}

// number tells one of up to n limbs; many limbs are all noughts or all ones, since that is where carries go far.
func (s *source) number(n int) []uint32 {
	out := make([]uint32, s.next()>>33%uint64(n+1))
	for i := range out {
		switch x := s.next() >> 20; x % 4 {
		case 0:
			out[i] = 0
		case 1:
			out[i] = 1<<32 - 1
		default:
			out[i] = uint32(x >> 8)
		}
	}
	return nat.Trim(out)
}

// pairs calls f with many pairs of numbers, each of them trimmed.
func pairs(f func(a, b []uint32)) {
	l := edges()
	for _, a := range l {
		for _, b := range l {
			f(a, b)
		}
	}
	s := source(1)
	for range 4000 {
		f(s.number(12), s.number(7))
	}
}
