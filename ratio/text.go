package ratio

import (
	"strings"

	"foliot/api"
	"foliot/integer"
	"foliot/nat"
)

// Print tells a number's text.
func Print(a api.Rat) string {
	a = Norm(a)
	text := integer.Print(a.Num)
	if den := nat.Print(a.Den); den != "1" {
		text += "/" + den
	}
	return text
}

// Parse tells the number of a text.
func Parse(s string) (api.Rat, api.Errno) {
	head, tail := s, ""
	cut := func(sign string) (found bool) {
		head, tail, found = strings.Cut(s, sign)
		return found
	}
	switch {
	case cut("/"):
		return parseQuotient(head, tail)
	case cut("."):
		return parseDecimal(head, tail)
	}
	num, err := integer.Parse(s)
	if err != api.OK {
		return api.Rat{}, err
	}
	return over(num, []uint32{1}), api.OK
}

// parseQuotient tells the number of the texts on both sides of a /.
func parseQuotient(head, tail string) (api.Rat, api.Errno) {
	num, den, err := parseParts(head, tail)
	if err != api.OK {
		return api.Rat{}, err
	}
	out, err := Make(num, asInt(den))
	if err != api.OK {
		return api.Rat{}, api.ErrForm
	}
	return out, api.OK
}

// parseDecimal tells the number of the texts on both sides of a point.
func parseDecimal(head, tail string) (api.Rat, api.Errno) {
	num, decimals, err := parseParts(head, tail)
	if err != api.OK {
		return api.Rat{}, err
	}
	scale := powerOfTen(len(tail))
	// The sign is read off the text, since -0 has lost it as an integer.
	num.Neg = strings.HasPrefix(head, "-")
	num.Mag = nat.Add(nat.Mul(num.Mag, scale), decimals)
	return Norm(over(num, scale)), api.OK
}

// parseParts tells the integer and the digits of the texts on both sides of a sign; that a text is none is told ahead of that one is too long.
func parseParts(head, tail string) (api.Int, []uint32, api.Errno) {
	num, errHead := integer.Parse(head)
	digits, errTail := nat.Parse(tail)
	for _, err := range [...]api.Errno{api.ErrForm, api.ErrLong} {
		if errHead == err || errTail == err {
			return api.Int{}, nil, err
		}
	}
	return num, digits, api.OK
}

// powerOfTen tells 10^n, n at most MaxDigits: as one more than n nines, since a 1 and n noughts may be a digit too long to be parsed.
func powerOfTen(n int) []uint32 {
	nines, _ := nat.Parse(strings.Repeat("9", n))
	return nat.Add(nines, []uint32{1})
}
