package nat_test

import (
	"slices"
	"testing"

	"foliot/api"
	"foliot/nat"
)

// Promise 1.4.

func TestLawsOfSumsAndProducts(t *testing.T) {
	s := source(3)
	for range 2000 {
		a, b, c := s.number(8), s.number(8), s.number(8)
		equal(t, "a + b = b + a", nat.Add(a, b), nat.Add(b, a))
		equal(t, "a b = b a", nat.Mul(a, b), nat.Mul(b, a))
		equal(t, "(a + b) + c = a + (b + c)", nat.Add(nat.Add(a, b), c), nat.Add(a, nat.Add(b, c)))
		equal(t, "(a b) c = a (b c)", nat.Mul(nat.Mul(a, b), c), nat.Mul(a, nat.Mul(b, c)))
		equal(t, "a (b + c) = a b + a c", nat.Mul(a, nat.Add(b, c)), nat.Add(nat.Mul(a, b), nat.Mul(a, c)))
		d, err := nat.Sub(nat.Add(a, b), b)
		if err != api.OK {
			t.Fatal(err)
		}
		equal(t, "a + b - b = a", d, a)
	}
}

func TestLawsOfQuotients(t *testing.T) {
	pairs(func(a, b []uint32) {
		q, r, err := nat.Div(a, b)
		if err != api.OK {
			return
		}
		equal(t, "q b + r = a", nat.Add(nat.Mul(q, b), r), a)
		if nat.Cmp(r, b) >= 0 {
			t.Fatalf("%x by %x: the rest is %x", a, b, r)
		}
	})
}

func TestLawsOfDivisors(t *testing.T) {
	s := source(4)
	for range 500 {
		d, a, b := s.number(4), s.number(6), s.number(6)
		x, y := nat.Mul(d, a), nat.Mul(d, b)
		g := nat.Gcd(x, y)
		if nat.Bits(g) == 0 {
			continue
		}
		for _, n := range [][]uint32{x, y} {
			if _, r, err := nat.Div(n, g); err != api.OK || len(r) != 0 {
				t.Fatalf("%x does not divide %x", g, n)
			}
		}
		if _, r, err := nat.Div(g, d); err != api.OK || len(r) != 0 {
			t.Fatalf("%x, a common divisor, does not divide %x", d, g)
		}
	}
}

func TestWhatIsPrintedIsParsed(t *testing.T) {
	pairs(func(a, b []uint32) {
		got, err := nat.Parse(nat.Print(a))
		if err != api.OK {
			t.Fatalf("%x: %d", a, err)
		}
		equal(t, "Parse of Print", got, a)
	})
}

func equal(t *testing.T, law string, a, b []uint32) {
	t.Helper()
	if !slices.Equal(a, b) {
		t.Fatalf("%s: %x, %x", law, a, b)
	}
}

// What the rules say of memory (R4): what is handed in stays as it is, what lies behind its end too; an answer shares nothing with it, nor with another answer.

// spare tells a with limbs behind its end that are not a's, and the row that they stand in.
func spare(a []uint32, noughts int) ([]uint32, []uint32) {
	row := append([]uint32(nil), a...)
	row = append(row, make([]uint32, noughts)...)
	n := len(row)
	row = append(row, 0xdead, 0xbeef, 0xcafe, 0xf00d)
	return row[:n], row
}

// spoil writes over an answer.
func spoil(a []uint32) {
	for i := range a {
		a[i] ^= 0x5a5a5a5a
	}
}

func calls() []func(a, b []uint32) [][]uint32 {
	return []func(a, b []uint32) [][]uint32{
		func(a, b []uint32) [][]uint32 { return [][]uint32{nat.Trim(a)} },
		func(a, b []uint32) [][]uint32 { return [][]uint32{nat.Add(a, b)} },
		func(a, b []uint32) [][]uint32 { d, _ := nat.Sub(a, b); return [][]uint32{d} },
		func(a, b []uint32) [][]uint32 { return [][]uint32{nat.Mul(a, b)} },
		func(a, b []uint32) [][]uint32 { q, r, _ := nat.Div(a, b); return [][]uint32{q, r} },
		func(a, b []uint32) [][]uint32 { return [][]uint32{nat.Gcd(a, b)} },
		func(a, b []uint32) [][]uint32 { nat.Cmp(a, b); nat.Bits(a); nat.Print(a); return nil },
	}
}

func TestMemory(t *testing.T) {
	for _, a := range edges() {
		for _, b := range edges() {
			for i, call := range calls() {
				for noughts := range 2 {
					checkMemory(t, i, call, a, b, noughts)
				}
			}
		}
	}
}

func checkMemory(t *testing.T, i int, call func(a, b []uint32) [][]uint32, a, b []uint32, noughts int) {
	t.Helper()
	x, row := spare(a, noughts)
	y, row2 := spare(b, noughts)
	before, before2 := slices.Clone(row), slices.Clone(row2)
	out := call(x, y)
	for j := range out {
		others := make([][]uint32, len(out))
		for k := range out {
			others[k] = slices.Clone(out[k])
		}
		if cap(out[j]) != len(out[j]) {
			t.Fatalf("call %d of %x, %x: noughts lie behind an answer's end", i, a, b)
		}
		spoil(out[j])
		for k := range out {
			if k != j && !slices.Equal(out[k], others[k]) {
				t.Fatalf("call %d of %x, %x: its answers share memory", i, a, b)
			}
		}
	}
	if !slices.Equal(row, before) || !slices.Equal(row2, before2) {
		t.Fatalf("call %d of %x, %x: it shares memory with what was handed in, or changed it", i, a, b)
	}
}

// Both numbers may lie in one row.
func TestSameMemoryTwice(t *testing.T) {
	for _, a := range edges() {
		for i, call := range calls() {
			x := slices.Clone(a)
			got, other := call(x, x), call(slices.Clone(a), slices.Clone(a))
			for j := range got {
				equal(t, "a call of one row twice", got[j], other[j])
			}
			if !slices.Equal(x, a) {
				t.Fatalf("call %d changed %x", i, a)
			}
		}
	}
}
