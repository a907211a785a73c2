package nat_test

import (
	"math/big"
	"testing"

	"foliot/api"
	"foliot/nat"
)

// Promise 1.2: quotients, rests, divisors.

func checkDiv(t *testing.T, a, b []uint32) {
	t.Helper()
	q, r, err := nat.Div(a, b)
	x, y := bigOf(a), bigOf(b)
	if y.Sign() == 0 {
		if err != api.ErrZero || len(q) != 0 || len(r) != 0 {
			t.Fatalf("Div(%x, 0) = %x, %x, %d: want ErrZero alone", a, q, r, err)
		}
		return
	}
	if err != api.OK {
		t.Fatalf("Div(%x, %x): %d", a, b, err)
	}
	qq, rr := new(big.Int).QuoRem(x, y, new(big.Int))
	want(t, "quotient", q, qq)
	want(t, "rest", r, rr)
}

func TestDiv(t *testing.T) {
	pairs(func(a, b []uint32) { checkDiv(t, a, b) })
}

// Numbers next to multiples of the divisor: there a limb that is guessed is wrong most often.
func TestDivNextToMultiples(t *testing.T) {
	one := []uint32{1}
	pairs(func(b, q []uint32) {
		p := nat.Mul(b, q)
		checkDiv(t, p, b)
		checkDiv(t, nat.Add(p, one), b)
		if d, err := nat.Sub(p, one); err == api.OK {
			checkDiv(t, d, b)
		}
	})
}

// Every pair of short numbers of limbs at which guesses go wrong, the one that must be taken back among them.
func TestDivOfHardLimbs(t *testing.T) {
	const m = 1<<32 - 1
	hard := []uint32{0, 1, 2, 1<<31 - 1, 1 << 31, 1<<31 + 1, m - 1, m}
	for _, h := range hard {
		for _, low := range hard {
			for _, k := range hard {
				b := []uint32{low, k, h}
				for _, x := range hard {
					for _, y := range hard {
						for _, z := range hard {
							checkDiv(t, []uint32{m, x, y, z}, b)
							checkDiv(t, []uint32{0, x, y, z}, b[1:])
						}
					}
				}
			}
		}
	}
}

func TestDivByHand(t *testing.T) {
	q, r, err := nat.Div(digits(t, "100000000000000000000"), []uint32{7})
	if err != api.OK {
		t.Fatal(err)
	}
	want(t, "quotient", q, bigOf(digits(t, "14285714285714285714")))
	want(t, "rest", r, big.NewInt(2))
	for _, zero := range [][]uint32{nil, {}, {0}, {0, 0, 0}} {
		for _, a := range [][]uint32{nil, {0}, {1}, {1, 2, 3}} {
			checkDiv(t, a, zero)
		}
	}
	checkDiv(t, nil, []uint32{5})
	checkDiv(t, []uint32{4}, []uint32{5})
	checkDiv(t, []uint32{5}, []uint32{5, 0})
	checkDiv(t, []uint32{1, 2}, []uint32{1, 2, 3})
}

func TestGcd(t *testing.T) {
	pairs(func(a, b []uint32) {
		want(t, "Gcd", nat.Gcd(a, b), new(big.Int).GCD(nil, nil, bigOf(a), bigOf(b)))
	})
	s := source(2)
	for range 500 {
		g, a, b := s.number(5), s.number(6), s.number(6)
		x, y := nat.Mul(g, a), nat.Mul(g, b)
		want(t, "Gcd", nat.Gcd(x, y), new(big.Int).GCD(nil, nil, bigOf(x), bigOf(y)))
	}
}

func TestGcdByHand(t *testing.T) {
	for _, c := range []struct {
		a, b []uint32
		want int64
	}{
		{nil, nil, 0}, {[]uint32{0}, []uint32{0, 0}, 0},
		{nil, []uint32{9}, 9}, {[]uint32{9, 0}, nil, 9}, {nil, []uint32{7, 1}, 1<<32 + 7},
		{[]uint32{12}, []uint32{18}, 6}, {[]uint32{18}, []uint32{12}, 6},
		{[]uint32{1}, []uint32{0, 0, 0, 1}, 1}, {[]uint32{35}, []uint32{64}, 1},
		{[]uint32{0, 0, 0, 3}, []uint32{0, 6}, 6 << 32},
	} {
		want(t, "Gcd", nat.Gcd(c.a, c.b), big.NewInt(c.want))
	}
	// Numbers of Fibonacci's take the most steps.
	a, b := []uint32{1}, []uint32{1}
	for range 1200 {
		a, b = b, nat.Add(a, b)
	}
	want(t, "Gcd", nat.Gcd(a, b), big.NewInt(1))
}
