package nat

import (
	"slices"

	"foliot/api"
)

// Digits are made in chunks, the longest ones that fit a limb.
const (
	chunkDigits = 9
	chunk       = 1000000000
)

// Print tells a number's digits.
func Print(a []uint32) string {
	left := told(a)
	if len(left) == 0 {
		return "0"
	}
	var text []byte
	for len(left) > 0 {
		part := shrink(left, chunk)
		left = cut(left)
		for range chunkDigits {
			text = append(text, byte('0'+part%10))
			part /= 10
		}
	}
	n := len(text)
	for text[n-1] == '0' {
		n--
	}
	text = text[:n]
	slices.Reverse(text)
	return string(text)
}

// Parse tells the number of digits.
func Parse(s string) ([]uint32, api.Errno) {
	if len(s) == 0 {
		return nil, api.ErrForm
	}
	for i := range len(s) {
		if s[i] < '0' || s[i] > '9' {
			return nil, api.ErrForm
		}
	}
	if len(s) > api.MaxDigits {
		return nil, api.ErrLong
	}
	var out []uint32
	for i := range len(s) {
		out = follow(out, uint32(s[i]-'0'))
	}
	return cut(out), api.OK
}

// follow puts one digit more behind a number, where it lies if it has room.
func follow(a []uint32, digit uint32) []uint32 {
	carry := uint64(digit)
	for i := range a {
		carry += uint64(a[i]) * 10
		a[i] = uint32(carry)
		carry >>= limbBits
	}
	if carry > 0 {
		a = append(a, uint32(carry))
	}
	return a
}
