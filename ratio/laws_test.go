package ratio_test

import (
	"math/rand"
	"slices"
	"testing"

	"foliot/api"
	"foliot/integer"
	"foliot/ratio"
)

// Promise 3.4.

func equal(t *testing.T, law string, a, b api.Rat) {
	t.Helper()
	if !same(a, b) {
		t.Fatalf("%s: %v, %v", law, a, b)
	}
}

func TestLawsOfAField(t *testing.T) {
	r := rand.New(rand.NewSource(2))
	zero, one := ratio.Of(0), ratio.Of(1)
	for range 2000 {
		a, b, c := random(r, 4), random(r, 4), random(r, 4)
		told := ratio.Norm(a)
		equal(t, "a + b = b + a", ratio.Add(a, b), ratio.Add(b, a))
		equal(t, "a b = b a", ratio.Mul(a, b), ratio.Mul(b, a))
		equal(t, "(a + b) + c = a + (b + c)", ratio.Add(ratio.Add(a, b), c), ratio.Add(a, ratio.Add(b, c)))
		equal(t, "(a b) c = a (b c)", ratio.Mul(ratio.Mul(a, b), c), ratio.Mul(a, ratio.Mul(b, c)))
		equal(t, "a (b + c) = a b + a c", ratio.Mul(a, ratio.Add(b, c)), ratio.Add(ratio.Mul(a, b), ratio.Mul(a, c)))
		equal(t, "a - b = a + -b", ratio.Sub(a, b), ratio.Add(a, ratio.Neg(b)))
		equal(t, "a + -a = 0", ratio.Add(a, ratio.Neg(a)), zero)
		equal(t, "a + 0 = a", ratio.Add(a, zero), told)
		equal(t, "a 1 = a", ratio.Mul(a, one), told)
		equal(t, "a 0 = 0", ratio.Mul(a, zero), zero)
		if inverse, err := ratio.Div(one, a); err == api.OK {
			equal(t, "a 1/a = 1", ratio.Mul(a, inverse), one)
			quotient, _ := ratio.Div(b, a)
			equal(t, "b / a = b 1/a", quotient, ratio.Mul(b, inverse))
			equal(t, "b / a a = b", ratio.Mul(quotient, a), ratio.Norm(b))
		} else if ratio.Sign(a) != 0 {
			t.Fatalf("1 by %v: %d", a, err)
		}
	}
}

func TestLawsOfOrder(t *testing.T) {
	r := rand.New(rand.NewSource(3))
	one := ratio.Of(1)
	for range 2000 {
		a, b, c := random(r, 3), random(r, 3), random(r, 3)
		order := ratio.Cmp(a, b)
		if order != -ratio.Cmp(b, a) || order != ratio.Sign(ratio.Sub(a, b)) || order != ratio.Cmp(ratio.Add(a, c), ratio.Add(b, c)) {
			t.Fatalf("%v, %v: the order of sums", a, b)
		}
		if ratio.Cmp(ratio.Mul(a, c), ratio.Mul(b, c)) != order*ratio.Sign(c) {
			t.Fatalf("%v, %v, %v: the order of products", a, b, c)
		}
		if order <= 0 && ratio.Cmp(b, c) <= 0 && ratio.Cmp(a, c) > 0 {
			t.Fatalf("%v, %v, %v: the order goes round", a, b, c)
		}
		floor, err := ratio.Make(ratio.Floor(a), integer.Of(1))
		if err != api.OK || ratio.Cmp(floor, a) > 0 || ratio.Cmp(ratio.Add(floor, one), a) <= 0 {
			t.Fatalf("%v: its floor is %v", a, floor)
		}
		if ratio.Whole(a) != (ratio.Cmp(floor, a) == 0) {
			t.Fatalf("%v: Whole and Floor say different things", a)
		}
	}
}

func TestANumberIsToldInOneWay(t *testing.T) {
	for _, a := range edges() {
		for _, form := range forms(a) {
			equal(t, "Norm", ratio.Norm(form), a)
			equal(t, "Norm of Norm", ratio.Norm(ratio.Norm(form)), a)
			if ratio.Cmp(form, a) != 0 || ratio.Print(form) != ratio.Print(a) {
				t.Fatalf("%v is another number than %v", form, a)
			}
		}
	}
}

func TestWhatIsPrintedIsParsed(t *testing.T) {
	pairs(func(a, b api.Rat) {
		equal(t, "Parse of Print", parse(t, ratio.Print(a)), ratio.Norm(a))
	})
}

// What the rules say of memory (R4): what is handed in stays as it is, what lies behind its end too; an answer shares nothing with it, nor with another answer.

// spare tells a number with limbs behind its ends that are not its own, and the rows that they stand in.
func spare(a api.Rat) (api.Rat, [2][]uint32) {
	num := append(slices.Clone(a.Num.Mag), 0xdead, 0xbeef, 0xcafe)
	den := append(slices.Clone(a.Den), 0xdead, 0xbeef, 0xcafe)
	told := api.Rat{Num: api.Int{Neg: a.Num.Neg, Mag: num[:len(a.Num.Mag)]}, Den: den[:len(a.Den)]}
	return told, [2][]uint32{num, den}
}

// spoil writes over an answer, and over what room it has behind its end.
func spoil(limbs []uint32) {
	limbs = limbs[:cap(limbs)]
	for i := range limbs {
		limbs[i] ^= 0x5a5a5a5a
	}
}

// calls tell all rows of limbs that they answer.
func calls() []func(a, b api.Rat) [][]uint32 {
	rows := func(a api.Rat) [][]uint32 { return [][]uint32{a.Num.Mag, a.Den} }
	return []func(a, b api.Rat) [][]uint32{
		func(a, b api.Rat) [][]uint32 { return rows(ratio.Norm(a)) },
		func(a, b api.Rat) [][]uint32 { c, _ := ratio.Make(a.Num, b.Num); return rows(c) },
		func(a, b api.Rat) [][]uint32 { return rows(ratio.Neg(a)) },
		func(a, b api.Rat) [][]uint32 { return rows(ratio.Add(a, b)) },
		func(a, b api.Rat) [][]uint32 { return rows(ratio.Sub(a, b)) },
		func(a, b api.Rat) [][]uint32 { return rows(ratio.Mul(a, b)) },
		func(a, b api.Rat) [][]uint32 { c, _ := ratio.Div(a, b); return rows(c) },
		func(a, b api.Rat) [][]uint32 { return [][]uint32{ratio.Floor(a).Mag} },
		func(a, b api.Rat) [][]uint32 {
			ratio.Cmp(a, b)
			ratio.Sign(a)
			ratio.Whole(a)
			ratio.Bits(a)
			ratio.Print(a)
			return nil
		},
	}
}

func TestMemory(t *testing.T) {
	pairs(func(a, b api.Rat) {
		for i, call := range calls() {
			checkMemory(t, i, call, a, b)
		}
	})
}

func checkMemory(t *testing.T, i int, call func(a, b api.Rat) [][]uint32, a, b api.Rat) {
	t.Helper()
	x, row := spare(a)
	y, row2 := spare(b)
	rows := [][]uint32{row[0], row[1], row2[0], row2[1]}
	before := make([][]uint32, len(rows))
	for j := range rows {
		before[j] = slices.Clone(rows[j])
	}
	out := call(x, y)
	for j := range out {
		other := out[len(out)-1-j]
		rest := slices.Clone(other)
		spoil(out[j])
		if len(out) > 1 && !slices.Equal(other, rest) {
			t.Fatalf("call %d of %v, %v: its answer's parts share memory", i, a, b)
		}
	}
	for j := range rows {
		if !slices.Equal(rows[j], before[j]) {
			t.Fatalf("call %d of %v, %v: it shares memory with what was handed in, or changed it", i, a, b)
		}
	}
}

// Both numbers, and Num and Den of one, may lie in one row.
func TestSameMemoryTwice(t *testing.T) {
	row := []uint32{12, 0, 5, 0}
	a := api.Rat{Num: api.Int{Neg: true, Mag: row[:3]}, Den: row[:1]}
	for i, call := range calls() {
		x, _ := spare(a)
		y, _ := spare(a)
		got, other := call(a, a), call(x, y)
		for j := range got {
			if !slices.Equal(got[j], other[j]) {
				t.Fatalf("call %d of one row twice: %v, %v", i, got, other)
			}
		}
	}
	if !slices.Equal(row, []uint32{12, 0, 5, 0}) {
		t.Fatalf("what was handed in is now %v", row)
	}
	want(t, "a number of one row", ratio.Norm(a), bigOf(a))
}
