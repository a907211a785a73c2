package integer_test

import (
	"math"
	"math/big"
	"testing"

	"foliot/api"
	"foliot/integer"
)

// Promise 2.1.

func TestNorm(t *testing.T) {
	for _, c := range []struct{ in, out api.Int }{
		{api.Int{}, api.Int{}},
		{api.Int{Neg: true}, api.Int{}},
		{api.Int{Neg: true, Mag: []uint32{}}, api.Int{}},
		{api.Int{Neg: true, Mag: []uint32{0, 0}}, api.Int{}},
		{api.Int{Mag: []uint32{0}}, api.Int{}},
		{api.Int{Mag: []uint32{5, 0}}, api.Int{Mag: []uint32{5}}},
		{api.Int{Neg: true, Mag: []uint32{5}}, api.Int{Neg: true, Mag: []uint32{5}}},
		{api.Int{Neg: true, Mag: []uint32{0, 5, 0, 0}}, api.Int{Neg: true, Mag: []uint32{0, 5}}},
	} {
		if got := integer.Norm(c.in); !same(got, c.out) {
			t.Errorf("Norm(%v) = %v, want %v", c.in, got, c.out)
		}
	}
	pairs(func(a, b api.Int) { want(t, "Norm", integer.Norm(a), bigOf(a)) })
}

func TestOfAndSmall(t *testing.T) {
	for _, n := range []int64{
		0, 1, -1, 2, -2, 1 << 31, -1 << 31, 1<<32 - 1, 1 - 1<<32, 1 << 32, -1 << 32, 1<<32 + 5, 1 << 62, -1 << 62,
		math.MaxInt64, math.MaxInt64 - 1, math.MinInt64, math.MinInt64 + 1,
	} {
		a := integer.Of(n)
		want(t, "Of", a, big.NewInt(n))
		for _, form := range forms(a) {
			if got, ok := integer.Small(form); got != n || !ok {
				t.Errorf("Small(%v) = %d, %v: want %d", form, got, ok, n)
			}
		}
	}
}

func TestSmallOfWhatIsNone(t *testing.T) {
	for _, s := range []string{
		"9223372036854775808", "-9223372036854775809", "9223372036854775809", "-9223372036854775810",
		"18446744073709551615", "-18446744073709551615", "18446744073709551616", "-18446744073709551616",
		"18446744073709551617", "-18446744073709551617", "340282366920938463463374607431768211456", "-79228162514264337593543950336",
	} {
		for _, form := range forms(intOf(number(t, s))) {
			if n, ok := integer.Small(form); n != 0 || ok {
				t.Errorf("Small(%s) = %d, %v: want 0, false", s, n, ok)
			}
		}
	}
	pairs(func(a, b api.Int) {
		n, ok := integer.Small(a)
		x := bigOf(a)
		if ok != x.IsInt64() || ok && n != x.Int64() || !ok && n != 0 {
			t.Fatalf("Small(%v) = %d, %v", a, n, ok)
		}
	})
}

func TestCmpAndSign(t *testing.T) {
	for _, c := range []struct {
		a, b api.Int
		want int
	}{
		{api.Int{}, api.Int{Neg: true, Mag: []uint32{0}}, 0},
		{api.Int{Neg: true}, api.Int{Neg: true, Mag: []uint32{0}}, 0},
		{api.Int{Neg: true}, api.Int{Mag: []uint32{1}}, -1},
		{api.Int{Neg: true}, api.Int{Neg: true, Mag: []uint32{1}}, 1},
		{api.Int{Neg: true, Mag: []uint32{3}}, api.Int{Neg: true, Mag: []uint32{2}}, -1},
		{api.Int{Neg: true, Mag: []uint32{2, 0}}, api.Int{Neg: true, Mag: []uint32{0, 1}}, 1},
		{api.Int{Neg: true, Mag: []uint32{0, 0, 9}}, api.Int{Mag: []uint32{1}}, -1},
		{api.Int{Mag: []uint32{1, 0}}, api.Int{Mag: []uint32{1}}, 0},
	} {
		if got := integer.Cmp(c.a, c.b); got != c.want {
			t.Errorf("Cmp(%v, %v) = %d, want %d", c.a, c.b, got, c.want)
		}
	}
	pairs(func(a, b api.Int) {
		if got, want := integer.Cmp(a, b), bigOf(a).Cmp(bigOf(b)); got != want {
			t.Fatalf("Cmp(%v, %v) = %d, want %d", a, b, got, want)
		}
		if got, want := integer.Sign(a), bigOf(a).Sign(); got != want {
			t.Fatalf("Sign(%v) = %d, want %d", a, got, want)
		}
	})
}

// Promise 2.2.

func TestSumsAndProducts(t *testing.T) {
	pairs(func(a, b api.Int) {
		x, y := bigOf(a), bigOf(b)
		want(t, "Neg", integer.Neg(a), new(big.Int).Neg(x))
		want(t, "Add", integer.Add(a, b), new(big.Int).Add(x, y))
		want(t, "Sub", integer.Sub(a, b), new(big.Int).Sub(x, y))
		want(t, "Mul", integer.Mul(a, b), new(big.Int).Mul(x, y))
	})
}

func TestSumsAndProductsByHand(t *testing.T) {
	for _, c := range [][5]int64{ // a, b, sum, difference, product
		{0, 0, 0, 0, 0}, {0, 5, 5, -5, 0}, {0, -5, -5, 5, 0}, {5, 0, 5, 5, 0}, {-5, 0, -5, -5, 0},
		{3, 5, 8, -2, 15}, {3, -5, -2, 8, -15}, {-3, 5, 2, -8, -15}, {-3, -5, -8, 2, 15},
		{5, 5, 10, 0, 25}, {5, -5, 0, 10, -25}, {-5, -5, -10, 0, 25}, {1, -1 << 32, 1 - 1<<32, 1 + 1<<32, -1 << 32},
	} {
		a, b := integer.Of(c[0]), integer.Of(c[1])
		want(t, "a sum", integer.Add(a, b), big.NewInt(c[2]))
		want(t, "a difference", integer.Sub(a, b), big.NewInt(c[3]))
		want(t, "a product", integer.Mul(a, b), big.NewInt(c[4]))
		want(t, "an opposite", integer.Neg(a), big.NewInt(-c[0]))
	}
	least := integer.Of(math.MinInt64)
	want(t, "the opposite of the least int64", integer.Neg(least), number(t, "9223372036854775808"))
	want(t, "one below it", integer.Sub(least, integer.Of(1)), number(t, "-9223372036854775809"))
	want(t, "its square", integer.Mul(least, least), number(t, "85070591730234615865843651857942052864"))
}

func TestDivByHand(t *testing.T) {
	for _, c := range [][4]int64{ // a, b, quotient, rest
		{7, 2, 3, 1}, {-7, 2, -4, 1}, {7, -2, -4, -1}, {-7, -2, 3, -1},
		{6, 3, 2, 0}, {-6, 3, -2, 0}, {6, -3, -2, 0}, {-6, -3, 2, 0},
		{2, 7, 0, 2}, {-2, 7, -1, 5}, {2, -7, -1, -5}, {-2, -7, 0, -2},
		{0, 5, 0, 0}, {0, -5, 0, 0}, {1, 1, 1, 0}, {-1, 1, -1, 0}, {1, -1, -1, 0}, {-1, -1, 1, 0},
		{-1, math.MaxInt64, -1, math.MaxInt64 - 1}, {math.MinInt64, math.MaxInt64, -2, math.MaxInt64 - 1},
		{1 - 1<<32, 1 << 32, -1, 1}, {-1 << 32, 1<<32 - 1, -2, 1<<32 - 2},
	} {
		q, r, err := integer.Div(integer.Of(c[0]), integer.Of(c[1]))
		if err != api.OK {
			t.Fatalf("%d by %d: %d", c[0], c[1], err)
		}
		want(t, "a quotient", q, big.NewInt(c[2]))
		want(t, "a rest", r, big.NewInt(c[3]))
	}
	q, r, err := integer.Div(integer.Of(math.MinInt64), integer.Of(-1))
	if err != api.OK {
		t.Fatal(err)
	}
	want(t, "a quotient that is no int64", q, number(t, "9223372036854775808"))
	want(t, "its rest", r, big.NewInt(0))
	// The quotient of limbs that are all ones gains a limb when it goes one further.
	q, r, err = integer.Div(intOf(number(t, "-36893488147419103231")), integer.Of(2))
	if err != api.OK {
		t.Fatal(err)
	}
	want(t, "a quotient of one limb more", q, number(t, "-18446744073709551616"))
	want(t, "its rest", r, big.NewInt(1))
}

func TestDivByNought(t *testing.T) {
	for _, a := range edges() {
		for _, zero := range forms(api.Int{}) {
			q, r, err := integer.Div(a, zero)
			if err != api.ErrZero || !same(q, api.Int{}) || !same(r, api.Int{}) {
				t.Fatalf("Div(%v, %v) = %v, %v, %d: want ErrZero alone", a, zero, q, r, err)
			}
		}
	}
}
