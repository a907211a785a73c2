package nat

import (
	"math"
	"math/bits"

	"foliot/api"
)

// Div tells quotient and rest.
func Div(a, b []uint32) ([]uint32, []uint32, api.Errno) {
	a, b = cut(a), cut(b)
	if len(b) == 0 {
		return nil, nil, api.ErrZero
	}
	q, r := divide(a, b)
	return q, r, api.OK
}

// Gcd tells the greatest common divisor.
func Gcd(a, b []uint32) []uint32 {
	a, b = cut(a), cut(b)
	for len(b) > 0 && (len(a) > 2 || len(b) > 2) {
		_, r := divide(a, b)
		a, b = b, r
	}
	if len(b) == 0 {
		return told(a)
	}
	// What is left fits a machine's word, whose own division is far faster.
	x, y := word(a), word(b)
	for y > 0 {
		x, y = y, x%y
	}
	return split(x)
}

// word tells the number of no more than two limbs.
func word(a []uint32) uint64 {
	x := uint64(0)
	for i := len(a) - 1; i >= 0; i-- {
		x = x<<limbBits | uint64(a[i])
	}
	return x
}

// split tells the limbs of a word.
func split(x uint64) []uint32 {
	return cut([]uint32{uint32(x), uint32(x >> limbBits)})
}

// divide tells quotient and rest of numbers that are cut already; b is not 0.
func divide(a, b []uint32) ([]uint32, []uint32) {
	if Cmp(a, b) < 0 {
		return nil, told(a)
	}
	if len(b) == 1 {
		q := told(a)
		r := shrink(q, b[0])
		return cut(q), split(uint64(r))
	}
	return divideLong(a, b)
}

// shrink divides a by d where it lies, and tells the rest.
func shrink(a []uint32, d uint32) uint32 {
	rest := uint64(0)
	for i := len(a) - 1; i >= 0; i-- {
		rest = rest<<limbBits | uint64(a[i])
		a[i] = uint32(rest / uint64(d))
		rest %= uint64(d)
	}
	return uint32(rest)
}

// divideLong divides as it is done on paper; b has two limbs at least, a is not below b. Both are shifted till b's highest bit is set: a limb of the quotient that is guessed from the highest limbs alone is then hardly ever wrong, and by no more than 1.
func divideLong(a, b []uint32) ([]uint32, []uint32) {
	n := len(b)
	shift := bits.LeadingZeros32(b[n-1])
	divisor := shiftUp(b, shift)[:n]
	rest := shiftUp(a, shift)
	q := make([]uint32, len(a)-n+1)
	for i := len(q) - 1; i >= 0; i-- {
		q[i] = takeOff(rest[i:i+n+1], divisor)
	}
	shiftDown(rest, shift)
	return cut(q), cut(rest)
}

// shiftUp tells a times 2^n, n below limbBits, with one limb more than a has.
func shiftUp(a []uint32, n int) []uint32 {
	out := make([]uint32, len(a)+1)
	carry := uint64(0)
	for i := range a {
		carry |= uint64(a[i]) << n
		out[i] = uint32(carry)
		carry >>= limbBits
	}
	out[len(a)] = uint32(carry)
	return out
}

// shiftDown divides a by 2^n where it lies, n below limbBits.
func shiftDown(a []uint32, n int) {
	for i := range a {
		x := uint64(a[i])
		if i+1 < len(a) {
			x |= uint64(a[i+1]) << limbBits
		}
		a[i] = uint32(x >> n)
	}
}

// takeOff takes b off a as often as can be, and tells how often: a limb, since a without its lowest limb is below b.
func takeOff(a, b []uint32) uint32 {
	times := guess(a, b)
	if takeTimes(a, b, times) {
		giveBack(a, b)
		times--
	}
	return times
}

// guess tells how often b goes into a, as the three highest limbs of a and the two highest ones of b say it: that often, or once more.
func guess(a, b []uint32) uint32 {
	n := len(b)
	high := uint64(b[n-1])
	top := uint64(a[n])<<limbBits | uint64(a[n-1])
	times, rest := top/high, top%high
	for rest <= math.MaxUint32 && (times > math.MaxUint32 || times*uint64(b[n-2]) > rest<<limbBits|uint64(a[n-2])) {
		times--
		rest += high
	}
	return uint32(times)
}

// takeTimes takes b off a so often, and tells whether that was once too often: a has then gone below 0 and wrapped round.
func takeTimes(a, b []uint32, times uint32) bool {
	carry, borrow := uint64(0), uint32(0)
	for i := range b {
		carry += uint64(b[i]) * uint64(times)
		a[i], borrow = bits.Sub32(a[i], uint32(carry), borrow)
		carry >>= limbBits
	}
	n := len(b)
	a[n], borrow = bits.Sub32(a[n], uint32(carry), borrow)
	return borrow > 0
}

// giveBack adds b to a once; what goes over is dropped, since it makes up for the wrap-round of takeTimes.
func giveBack(a, b []uint32) {
	carry := uint32(0)
	for i := range b {
		a[i], carry = bits.Add32(a[i], b[i], carry)
	}
	a[len(b)] += carry
}
