// Package nat is layer 1: see shared/doc/01-nat.md.
package nat

import (
	"math/bits"

	"foliot/api"
)

// limbBits is how many bits a limb has.
const limbBits = 32

// Trim tells the number.
func Trim(a []uint32) []uint32 { return told(a) }

// cut leaves out the limbs that do not count. Its capacity ends with it, so that nobody who appends writes over what its owner keeps behind it.
func cut(a []uint32) []uint32 {
	n := len(a)
	for n > 0 && a[n-1] == 0 {
		n--
	}
	if n == 0 {
		return nil
	}
	return a[:n:n]
}

// told copies a number that is somebody else's, since an answer shares no memory with what was handed in.
func told(a []uint32) []uint32 {
	a = cut(a)
	if len(a) == 0 {
		return nil
	}
	out := make([]uint32, len(a))
	copy(out, a)
	return out
}

// Cmp compares two.
func Cmp(a, b []uint32) int {
	a, b = cut(a), cut(b)
	switch {
	case len(a) < len(b):
		return -1
	case len(a) > len(b):
		return 1
	}
	for i := len(a) - 1; i >= 0; i-- {
		switch {
		case a[i] < b[i]:
			return -1
		case a[i] > b[i]:
			return 1
		}
	}
	return 0
}

// Bits tells how many bits a number has.
func Bits(a []uint32) int {
	a = cut(a)
	if len(a) == 0 {
		return 0
	}
	top := len(a) - 1
	return top*limbBits + bits.Len32(a[top])
}

// Add tells the sum.
func Add(a, b []uint32) []uint32 {
	a, b = cut(a), cut(b)
	if len(a) < len(b) {
		a, b = b, a
	}
	out := make([]uint32, len(a)+1)
	carry := uint64(0)
	for i := range a {
		carry += uint64(a[i])
		if i < len(b) {
			carry += uint64(b[i])
		}
		out[i] = uint32(carry)
		carry >>= limbBits
	}
	out[len(a)] = uint32(carry)
	return cut(out)
}

// Sub tells the difference.
func Sub(a, b []uint32) ([]uint32, api.Errno) {
	a, b = cut(a), cut(b)
	if Cmp(a, b) < 0 {
		return nil, api.ErrArg
	}
	out := make([]uint32, len(a))
	borrow := uint32(0)
	for i := range a {
		less := uint32(0)
		if i < len(b) {
			less = b[i]
		}
		out[i], borrow = bits.Sub32(a[i], less, borrow)
	}
	return cut(out), api.OK
}

// Mul tells the product.
func Mul(a, b []uint32) []uint32 {
	a, b = cut(a), cut(b)
	out := make([]uint32, len(a)+len(b))
	for i := range a {
		// One limb's product and two limbs more are just what 64 bits hold.
		carry := uint64(0)
		for j := range b {
			carry += uint64(a[i])*uint64(b[j]) + uint64(out[i+j])
			out[i+j] = uint32(carry)
			carry >>= limbBits
		}
		out[i+len(b)] = uint32(carry)
	}
	return cut(out)
}
