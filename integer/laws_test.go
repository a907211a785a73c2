package integer_test

import (
	"math/rand"
	"slices"
	"testing"

	"foliot/api"
	"foliot/integer"
)

// Promise 2.4.

func equal(t *testing.T, law string, a, b api.Int) {
	t.Helper()
	if !same(a, b) {
		t.Fatalf("%s: %v, %v", law, a, b)
	}
}

func TestLawsOfSumsAndProducts(t *testing.T) {
	r := rand.New(rand.NewSource(2))
	zero, one := integer.Of(0), integer.Of(1)
	for range 2000 {
		a, b, c := random(r, 6), random(r, 6), random(r, 6)
		equal(t, "a + b = b + a", integer.Add(a, b), integer.Add(b, a))
		equal(t, "a b = b a", integer.Mul(a, b), integer.Mul(b, a))
		equal(t, "(a + b) + c = a + (b + c)", integer.Add(integer.Add(a, b), c), integer.Add(a, integer.Add(b, c)))
		equal(t, "(a b) c = a (b c)", integer.Mul(integer.Mul(a, b), c), integer.Mul(a, integer.Mul(b, c)))
		equal(t, "a (b + c) = a b + a c", integer.Mul(a, integer.Add(b, c)), integer.Add(integer.Mul(a, b), integer.Mul(a, c)))
		equal(t, "a - b = a + -b", integer.Sub(a, b), integer.Add(a, integer.Neg(b)))
		equal(t, "a + -a = 0", integer.Add(a, integer.Neg(a)), zero)
		equal(t, "a + 0 = a", integer.Add(a, zero), integer.Norm(a))
		equal(t, "a 1 = a", integer.Mul(a, one), integer.Norm(a))
		equal(t, "- -a = a", integer.Neg(integer.Neg(a)), integer.Norm(a))
		if integer.Cmp(a, b) != integer.Sign(integer.Sub(a, b)) || integer.Cmp(a, b) != -integer.Cmp(b, a) {
			t.Fatalf("%v and %v: their order is not their difference's sign", a, b)
		}
	}
}

func TestLawsOfQuotients(t *testing.T) {
	pairs(func(a, b api.Int) {
		q, r, err := integer.Div(a, b)
		if integer.Sign(b) == 0 {
			if err != api.ErrZero {
				t.Fatalf("%v by %v: %d, want ErrZero", a, b, err)
			}
			return
		}
		if err != api.OK {
			t.Fatalf("%v by %v: %d", a, b, err)
		}
		equal(t, "q b + r = a", integer.Add(integer.Mul(q, b), r), integer.Norm(a))
		equal(t, "q is as it is told", q, integer.Norm(q))
		equal(t, "r is as it is told", r, integer.Norm(r))
		if s := integer.Sign(r); s != 0 && (s != integer.Sign(b) || integer.Cmp(r, b) != -s) {
			t.Fatalf("%v by %v: the rest is %v", a, b, r)
		}
	})
}

func TestWhatIsPrintedIsParsed(t *testing.T) {
	pairs(func(a, b api.Int) {
		got, err := integer.Parse(integer.Print(a))
		if err != api.OK {
			t.Fatalf("%v: %d", a, err)
		}
		equal(t, "Parse of Print", got, integer.Norm(a))
	})
}

// What the rules say of memory (R4): what is handed in stays as it is, what lies behind its end too; an answer shares nothing with it, nor with another answer.

// spare tells an integer with limbs behind its end that are not its own, and the row that they stand in.
func spare(a api.Int) (api.Int, []uint32) {
	n := len(a.Mag)
	row := append(slices.Clone(a.Mag), 0xdead, 0xbeef, 0xcafe, 0xf00d)
	return api.Int{Neg: a.Neg, Mag: row[:n]}, row
}

// spoil writes over an answer, and over what room it has behind its end.
func spoil(mag []uint32) {
	mag = mag[:cap(mag)]
	for i := range mag {
		mag[i] ^= 0x5a5a5a5a
	}
}

func calls() []func(a, b api.Int) []api.Int {
	return []func(a, b api.Int) []api.Int{
		func(a, b api.Int) []api.Int { return []api.Int{integer.Norm(a)} },
		func(a, b api.Int) []api.Int { return []api.Int{integer.Neg(a)} },
		func(a, b api.Int) []api.Int { return []api.Int{integer.Add(a, b)} },
		func(a, b api.Int) []api.Int { return []api.Int{integer.Sub(a, b)} },
		func(a, b api.Int) []api.Int { return []api.Int{integer.Mul(a, b)} },
		func(a, b api.Int) []api.Int { q, r, _ := integer.Div(a, b); return []api.Int{q, r} },
		func(a, b api.Int) []api.Int {
			integer.Small(a)
			integer.Cmp(a, b)
			integer.Sign(a)
			integer.Print(a)
			return nil
		},
	}
}

func TestMemory(t *testing.T) {
	pairs(func(a, b api.Int) {
		for i, call := range calls() {
			checkMemory(t, i, call, a, b)
		}
	})
}

func checkMemory(t *testing.T, i int, call func(a, b api.Int) []api.Int, a, b api.Int) {
	t.Helper()
	x, row := spare(a)
	y, row2 := spare(b)
	before, before2 := slices.Clone(row), slices.Clone(row2)
	out := call(x, y)
	for j := range out {
		other := out[len(out)-1-j].Mag
		rest := slices.Clone(other)
		spoil(out[j].Mag)
		if len(out) > 1 && !slices.Equal(other, rest) {
			t.Fatalf("call %d of %v, %v: its answers share memory", i, a, b)
		}
	}
	if !slices.Equal(row, before) || !slices.Equal(row2, before2) {
		t.Fatalf("call %d of %v, %v: it shares memory with what was handed in, or changed it", i, a, b)
	}
}

// Both integers may lie in one row.
func TestSameMemoryTwice(t *testing.T) {
	for _, a := range edges() {
		for i, call := range calls() {
			x := api.Int{Neg: a.Neg, Mag: slices.Clone(a.Mag)}
			got, other := call(x, x), call(x, api.Int{Neg: a.Neg, Mag: slices.Clone(a.Mag)})
			for j := range got {
				equal(t, "a call of one row twice", got[j], other[j])
			}
			if !same(x, a) {
				t.Fatalf("call %d changed %v", i, a)
			}
		}
	}
}
