package nat_test

import (
	"math/big"
	"testing"

	"foliot/api"
	"foliot/nat"
)

// Promise 1.1.

func TestTrim(t *testing.T) {
	for _, c := range []struct{ in, out []uint32 }{
		{nil, nil},
		{[]uint32{}, nil},
		{[]uint32{0}, nil},
		{[]uint32{0, 0, 0}, nil},
		{[]uint32{7}, []uint32{7}},
		{[]uint32{7, 0}, []uint32{7}},
		{[]uint32{0, 7, 0, 0}, []uint32{0, 7}},
		{[]uint32{0, 0, 1}, []uint32{0, 0, 1}},
		{[]uint32{1 << 31, 0}, []uint32{1 << 31}},
	} {
		want(t, "Trim", nat.Trim(c.in), bigOf(c.out))
	}
}

func TestCmp(t *testing.T) {
	for _, c := range []struct {
		a, b []uint32
		want int
	}{
		{nil, nil, 0},
		{nil, []uint32{0, 0}, 0},
		{[]uint32{0}, []uint32{1}, -1},
		{[]uint32{1}, nil, 1},
		{[]uint32{5, 0, 0}, []uint32{5}, 0},
		{[]uint32{5}, []uint32{4, 0}, 1},
		{[]uint32{4, 0}, []uint32{5}, -1},
		{[]uint32{1<<32 - 1}, []uint32{0, 1}, -1},
		{[]uint32{1 << 31}, []uint32{1}, 1},
		{[]uint32{9, 1}, []uint32{1, 9}, -1},
		{[]uint32{1, 2}, []uint32{9, 1}, 1},
		{[]uint32{1, 2}, []uint32{2, 2}, -1},
	} {
		if got := nat.Cmp(c.a, c.b); got != c.want {
			t.Errorf("Cmp(%v, %v) = %d, want %d", c.a, c.b, got, c.want)
		}
	}
	pairs(func(a, b []uint32) {
		if got, want := nat.Cmp(a, b), bigOf(a).Cmp(bigOf(b)); got != want {
			t.Fatalf("Cmp(%x, %x) = %d, want %d", a, b, got, want)
		}
	})
}

func TestBits(t *testing.T) {
	for _, c := range []struct {
		a    []uint32
		want int
	}{
		{nil, 0}, {[]uint32{0}, 0}, {[]uint32{0, 0}, 0},
		{[]uint32{1}, 1}, {[]uint32{2}, 2}, {[]uint32{3}, 2}, {[]uint32{4}, 3}, {[]uint32{255, 0}, 8},
		{[]uint32{1<<31 - 1}, 31}, {[]uint32{1 << 31}, 32}, {[]uint32{1<<32 - 1}, 32},
		{[]uint32{0, 1}, 33}, {[]uint32{0, 1, 0}, 33}, {[]uint32{0, 1 << 31}, 64}, {[]uint32{5, 6, 7}, 67},
	} {
		if got := nat.Bits(c.a); got != c.want {
			t.Errorf("Bits(%v) = %d, want %d", c.a, got, c.want)
		}
	}
}

// Promise 1.2: sums, differences, products.

func TestAddAndMul(t *testing.T) {
	pairs(func(a, b []uint32) {
		x, y := bigOf(a), bigOf(b)
		want(t, "Add", nat.Add(a, b), new(big.Int).Add(x, y))
		want(t, "Mul", nat.Mul(a, b), new(big.Int).Mul(x, y))
	})
}

func TestAddAndMulByHand(t *testing.T) {
	const m = 1<<32 - 1
	want(t, "0 + 0", nat.Add(nil, nil), big.NewInt(0))
	want(t, "0 * 0", nat.Mul(nil, nil), big.NewInt(0))
	want(t, "7 * 0", nat.Mul([]uint32{7}, []uint32{0}), big.NewInt(0))
	want(t, "2 + 3", nat.Add([]uint32{2}, []uint32{3}), big.NewInt(5))
	want(t, "6 * 7", nat.Mul([]uint32{6}, []uint32{7}), big.NewInt(42))
	want(t, "a carry", nat.Add([]uint32{m, m}, []uint32{1}), bigOf([]uint32{0, 0, 1}))
	want(t, "a product", nat.Mul([]uint32{m, m}, []uint32{m, m}), bigOf([]uint32{1, 0, m - 1, m}))
}

func TestSub(t *testing.T) {
	pairs(func(a, b []uint32) {
		x, y := bigOf(a), bigOf(b)
		d, err := nat.Sub(a, b)
		if x.Cmp(y) < 0 {
			if err != api.ErrArg || len(d) != 0 {
				t.Fatalf("Sub(%x, %x) = %x, %d: want ErrArg alone", a, b, d, err)
			}
			return
		}
		if err != api.OK {
			t.Fatalf("Sub(%x, %x): %d", a, b, err)
		}
		want(t, "Sub", d, x.Sub(x, y))
	})
}

func TestSubOfGreater(t *testing.T) {
	for _, c := range [][2][]uint32{
		{nil, {1}}, {{0, 0}, {1}}, {{6}, {7}}, {{7, 0, 0}, {8}}, {{1<<32 - 1}, {0, 1}}, {{9, 1}, {0, 2}}, {{1, 5}, {2, 5, 0}},
	} {
		if d, err := nat.Sub(c[0], c[1]); err != api.ErrArg || len(d) != 0 {
			t.Errorf("Sub(%v, %v) = %v, %d: want ErrArg alone", c[0], c[1], d, err)
		}
	}
	for _, c := range [][2][]uint32{{nil, {0}}, {{7}, {7, 0}}, {{7, 0}, {7}}} {
		if d, err := nat.Sub(c[0], c[1]); err != api.OK || len(d) != 0 {
			t.Errorf("Sub(%v, %v) = %v, %d: want 0", c[0], c[1], d, err)
		}
	}
}

// Limbs that are 0 at the row's end do not count, in whichever call.
func TestLimbsThatDoNotCount(t *testing.T) {
	for _, a := range edges() {
		for _, b := range edges() {
			x := append(append([]uint32(nil), a...), 0, 0)
			y := append(append([]uint32(nil), b...), 0)
			want(t, "Trim", nat.Trim(x), bigOf(a))
			want(t, "Add", nat.Add(x, y), bigOf(nat.Add(a, b)))
			want(t, "Mul", nat.Mul(x, y), bigOf(nat.Mul(a, b)))
			want(t, "Gcd", nat.Gcd(x, y), bigOf(nat.Gcd(a, b)))
			d, err := nat.Sub(x, y)
			d2, err2 := nat.Sub(a, b)
			want(t, "Sub", d, bigOf(d2))
			q, r, err3 := nat.Div(x, y)
			q2, r2, err4 := nat.Div(a, b)
			want(t, "quotient", q, bigOf(q2))
			want(t, "rest", r, bigOf(r2))
			if err != err2 || err3 != err4 || nat.Cmp(x, y) != nat.Cmp(a, b) {
				t.Fatalf("%x and %x: limbs that are 0 count", x, y)
			}
		}
		x := append(append([]uint32(nil), a...), 0, 0, 0)
		if nat.Bits(x) != nat.Bits(a) || nat.Print(x) != nat.Print(a) {
			t.Fatalf("%x: limbs that are 0 count", x)
		}
	}
}
