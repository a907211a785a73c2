package ratio_test

import (
	"math"
	"math/big"
	"testing"

	"foliot/api"
	"foliot/integer"
	"foliot/ratio"
)

// Promise 3.1.

func TestNorm(t *testing.T) {
	for _, c := range []struct{ in, out api.Rat }{
		{api.Rat{Num: integer.Of(6), Den: []uint32{4}}, fraction(3, 2)},
		{api.Rat{Num: integer.Of(-6), Den: []uint32{4, 0, 0}}, fraction(-3, 2)},
		{api.Rat{Num: integer.Of(8), Den: []uint32{4}}, fraction(2, 1)},
		{api.Rat{Num: integer.Of(7), Den: []uint32{7}}, fraction(1, 1)},
		{api.Rat{Num: integer.Of(-1), Den: []uint32{0, 1}}, fraction(-1, 1<<32)},
		{api.Rat{Num: integer.Of(-1 << 32), Den: []uint32{0, 1}}, fraction(-1, 1)},
	} {
		if got := ratio.Norm(c.in); !same(got, c.out) {
			t.Errorf("Norm(%v) = %v, want %v", c.in, got, c.out)
		}
	}
	for _, zero := range noughts() {
		want(t, "Norm of 0", ratio.Norm(zero), new(big.Rat))
	}
	pairs(func(a, b api.Rat) { want(t, "Norm", ratio.Norm(a), bigOf(a)) })
}

func TestMake(t *testing.T) {
	for _, c := range [][4]int64{
		{6, 4, 3, 2}, {-6, 4, -3, 2}, {6, -4, -3, 2}, {-6, -4, 3, 2}, {0, 5, 0, 1}, {0, -5, 0, 1}, {5, 1, 5, 1}, {5, -1, -5, 1},
		{-5, -5, 1, 1}, {12, 18, 2, 3}, {1, -3, -1, 3}, {math.MaxInt64, math.MaxInt64, 1, 1},
	} {
		got, err := ratio.Make(integer.Of(c[0]), integer.Of(c[1]))
		if err != api.OK {
			t.Fatal(c, err)
		}
		want(t, "Make", got, big.NewRat(c[2], c[3]))
	}
	pairs(func(a, b api.Rat) {
		got, err := ratio.Make(a.Num, b.Num)
		if den := bigInt(b.Num); den.Sign() != 0 {
			want(t, "Make", got, new(big.Rat).SetFrac(bigInt(a.Num), den))
		} else if err != api.ErrZero || !none(got) {
			t.Fatalf("Make(%v, %v) = %v, %d: want ErrZero alone", a.Num, b.Num, got, err)
		}
	})
}

func TestOf(t *testing.T) {
	for _, n := range []int64{0, 1, -1, 7, -7, 1 << 32, -1 << 32, math.MaxInt64, math.MinInt64} {
		want(t, "Of", ratio.Of(n), new(big.Rat).SetInt64(n))
	}
}

func TestCmpAndSign(t *testing.T) {
	for _, c := range []struct {
		a, b api.Rat
		want int
	}{
		{fraction(1, 3), fraction(1, 2), -1}, {fraction(-1, 3), fraction(-1, 2), 1}, {fraction(1, 3), fraction(-1, 2), 1},
		{fraction(2, 3), fraction(3, 4), -1}, {fraction(5, 1), fraction(11, 2), -1}, {fraction(0, 1), fraction(1, 1<<40), -1},
		{fraction(3, 2), times(fraction(3, 2), big.NewInt(5)), 0}, {api.Rat{Num: integer.Of(9)}, fraction(-1, 7), 1},
		{api.Rat{Num: integer.Of(-9)}, api.Rat{Num: integer.Of(9), Den: []uint32{0}}, 0}, {fraction(1, 7), api.Rat{Num: integer.Of(9)}, 1},
	} {
		if got := ratio.Cmp(c.a, c.b); got != c.want {
			t.Errorf("Cmp(%v, %v) = %d, want %d", c.a, c.b, got, c.want)
		}
	}
	pairs(func(a, b api.Rat) {
		if got, want := ratio.Cmp(a, b), bigOf(a).Cmp(bigOf(b)); got != want {
			t.Fatalf("Cmp(%v, %v) = %d, want %d", a, b, got, want)
		}
		if got, want := ratio.Sign(a), bigOf(a).Sign(); got != want {
			t.Fatalf("Sign(%v) = %d, want %d", a, got, want)
		}
	})
}

func TestWholeAndBits(t *testing.T) {
	for _, c := range []struct {
		a     api.Rat
		whole bool
		bits  int
	}{
		{fraction(0, 1), true, 1}, {api.Rat{}, true, 1}, {api.Rat{Num: integer.Of(255)}, true, 1}, {fraction(1, 1), true, 1},
		{fraction(255, 256), false, 9}, {fraction(256, 255), false, 9}, {fraction(-1, 4), false, 3}, {fraction(-4, 1), true, 3},
		{api.Rat{Num: integer.Of(6), Den: []uint32{2}}, true, 2}, {api.Rat{Num: integer.Of(256), Den: []uint32{512}}, false, 2},
		{fraction(1, 1<<32), false, 33}, {api.Rat{Num: integer.Of(-7), Den: []uint32{7, 0, 0}}, true, 1},
	} {
		if got := ratio.Whole(c.a); got != c.whole {
			t.Errorf("Whole(%v) = %v", c.a, got)
		}
		if got := ratio.Bits(c.a); got != c.bits {
			t.Errorf("Bits(%v) = %d, want %d", c.a, got, c.bits)
		}
	}
	pairs(func(a, b api.Rat) {
		x := bigOf(a)
		if got, want := ratio.Whole(a), x.IsInt(); got != want {
			t.Fatalf("Whole(%v) = %v", a, got)
		}
		if got, want := ratio.Bits(a), max(x.Num().BitLen(), x.Denom().BitLen()); got != want {
			t.Fatalf("Bits(%v) = %d, want %d", a, got, want)
		}
	})
}

// Promise 3.2.

func TestSumsAndProducts(t *testing.T) {
	pairs(func(a, b api.Rat) {
		x, y := bigOf(a), bigOf(b)
		want(t, "Neg", ratio.Neg(a), new(big.Rat).Neg(x))
		want(t, "Add", ratio.Add(a, b), new(big.Rat).Add(x, y))
		want(t, "Sub", ratio.Sub(a, b), new(big.Rat).Sub(x, y))
		want(t, "Mul", ratio.Mul(a, b), new(big.Rat).Mul(x, y))
	})
}

func TestSumsAndProductsByHand(t *testing.T) {
	for _, c := range [][2]string{ // what is worked out, what is wanted
		{ratio.Print(ratio.Add(fraction(1, 3), fraction(-1, 6))), "1/6"},
		{ratio.Print(ratio.Add(fraction(1, 2), fraction(1, 2))), "1"},
		{ratio.Print(ratio.Add(fraction(1, 6), fraction(1, 10))), "4/15"},
		{ratio.Print(ratio.Sub(fraction(1, 3), fraction(1, 3))), "0"},
		{ratio.Print(ratio.Sub(fraction(1, 3), fraction(1, 2))), "-1/6"},
		{ratio.Print(ratio.Mul(fraction(1, 3), fraction(-1, 6))), "-1/18"},
		{ratio.Print(ratio.Mul(fraction(2, 3), fraction(3, 2))), "1"},
		{ratio.Print(ratio.Mul(fraction(-2, 3), fraction(0, 1))), "0"},
		{ratio.Print(ratio.Neg(fraction(-2, 3))), "2/3"},
		{ratio.Print(ratio.Neg(fraction(0, 1))), "0"},
		{ratio.Print(ratio.Add(api.Rat{Num: integer.Of(9)}, fraction(1, 2))), "1/2"},
		{ratio.Print(ratio.Sub(api.Rat{Num: integer.Of(9)}, fraction(1, 2))), "-1/2"},
		{ratio.Print(ratio.Mul(api.Rat{Num: integer.Of(9)}, fraction(1, 2))), "0"},
	} {
		if c[0] != c[1] {
			t.Errorf("got %s, want %s", c[0], c[1])
		}
	}
}

func TestDiv(t *testing.T) {
	for _, c := range []struct {
		a, b api.Rat
		want *big.Rat
	}{
		{fraction(1, 3), fraction(-1, 6), big.NewRat(-2, 1)}, {fraction(-1, 3), fraction(-1, 6), big.NewRat(2, 1)},
		{fraction(0, 1), fraction(-5, 7), new(big.Rat)}, {api.Rat{Num: integer.Of(9)}, fraction(-5, 7), new(big.Rat)},
		{fraction(1, 1), fraction(-5, 7), big.NewRat(-7, 5)}, {fraction(-5, 7), fraction(5, 7), big.NewRat(-1, 1)},
	} {
		got, err := ratio.Div(c.a, c.b)
		if err != api.OK {
			t.Fatal(c.a, c.b, err)
		}
		want(t, "Div", got, c.want)
	}
	pairs(func(a, b api.Rat) {
		got, err := ratio.Div(a, b)
		x, y := bigOf(a), bigOf(b)
		if y.Sign() == 0 {
			if err != api.ErrZero || !none(got) {
				t.Fatalf("Div(%v, %v) = %v, %d: want ErrZero alone", a, b, got, err)
			}
			return
		}
		if err != api.OK {
			t.Fatalf("Div(%v, %v): %d", a, b, err)
		}
		want(t, "Div", got, new(big.Rat).Quo(x, y))
	})
}

func TestDivByNought(t *testing.T) {
	for _, a := range append(edges(), noughts()...) {
		for _, zero := range noughts() {
			if got, err := ratio.Div(a, zero); err != api.ErrZero || !none(got) {
				t.Fatalf("Div(%v, %v) = %v, %d: want ErrZero alone", a, zero, got, err)
			}
		}
	}
}

func TestFloor(t *testing.T) {
	for _, c := range [][3]int64{ // num, den, floor
		{3, 2, 1}, {-3, 2, -2}, {4, 2, 2}, {-4, 2, -2}, {0, 1, 0}, {1, 1 << 40, 0}, {-1, 1 << 40, -1}, {7, 1, 7}, {-7, 1, -7},
		{1<<32 - 1, 1 << 32, 0}, {1 << 32, 1<<32 - 1, 1},
	} {
		if got := ratio.Floor(fraction(c[0], c[1])); !sameInt(got, integer.Of(c[2])) {
			t.Errorf("Floor(%d/%d) = %v, want %d", c[0], c[1], got, c[2])
		}
	}
	pairs(func(a, b api.Rat) {
		x := bigOf(a)
		// A Denom is above 0, and there Euclid's quotient is the one that is rounded down.
		if got, want := ratio.Floor(a), intOf(new(big.Int).Div(x.Num(), x.Denom())); !sameInt(got, want) {
			t.Fatalf("Floor(%v) = %v, want %v", a, got, want)
		}
	})
}
