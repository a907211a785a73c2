package nat_test

import (
	"math/big"
	"strings"
	"testing"

	"foliot/api"
	"foliot/nat"
)

// Promise 1.3.

func TestPrint(t *testing.T) {
	for _, c := range []struct {
		a    []uint32
		want string
	}{
		{nil, "0"}, {[]uint32{}, "0"}, {[]uint32{0}, "0"}, {[]uint32{0, 0}, "0"},
		{[]uint32{1}, "1"}, {[]uint32{10}, "10"}, {[]uint32{907, 0}, "907"},
		{[]uint32{999999999}, "999999999"}, {[]uint32{1000000000}, "1000000000"}, {[]uint32{1000000001}, "1000000001"},
		{[]uint32{1<<32 - 1}, "4294967295"}, {[]uint32{0, 1}, "4294967296"},
		{[]uint32{0x89e80000, 0x8ac72304}, "10000000000000000000"},
	} {
		if got := nat.Print(c.a); got != c.want {
			t.Errorf("Print(%v) = %q, want %q", c.a, got, c.want)
		}
	}
	pairs(func(a, b []uint32) {
		if got, want := nat.Print(a), bigOf(a).String(); got != want {
			t.Fatalf("Print(%x) = %s, want %s", a, got, want)
		}
	})
}

func TestPrintOfPowers(t *testing.T) {
	n := big.NewInt(1)
	for range 400 {
		if got, want := nat.Print(limbsOf(n)), n.String(); got != want {
			t.Fatalf("got %s, want %s", got, want)
		}
		n.Mul(n, big.NewInt(10))
	}
}

func TestParse(t *testing.T) {
	for _, s := range []string{
		"0", "7", "10", "4294967295", "4294967296", "18446744073709551616", "340282366920938463463374607431768211455",
		"007", "00", "000000000000000000000", "00000000000000000000004294967296",
		strings.Repeat("9", api.MaxDigits-1), strings.Repeat("9", api.MaxDigits), strings.Repeat("0", api.MaxDigits),
		strings.Repeat("0", api.MaxDigits-1) + "1", "1" + strings.Repeat("0", api.MaxDigits-1),
		strings.Repeat("1234567890", api.MaxDigits/10),
	} {
		a, err := nat.Parse(s)
		if err != api.OK {
			t.Fatalf("Parse(%q): %d", s, err)
		}
		want(t, s, a, bigOf(digits(t, s)))
	}
}

func TestParseOfWhatIsNone(t *testing.T) {
	long := strings.Repeat("1", api.MaxDigits)
	for _, s := range []string{
		"", " ", "+", "-", "-1", "+1", " 1", "1 ", "1\n", "\t1", "1 2", "1_000", "1,000", "1.0", ".", "1.", "1e3", "0x1f", "1f", "a",
		"/", ":", "1/2", "12:", "\x00", "1\x00", "\xff", "1\xb9", "\u0661", "\uff11", "1\u0662", "\u00b2",
		long + "x", "x" + long, long + long + "-", "-" + long, long[1:] + " ", strings.Repeat("0", 5*api.MaxDigits) + "/", strings.Repeat("x", 5*api.MaxDigits),
	} {
		if a, err := nat.Parse(s); err != api.ErrForm || len(a) != 0 {
			t.Errorf("Parse(%q) = %v, %d: want ErrForm alone", s, a, err)
		}
	}
}

func TestParseOfTooManyDigits(t *testing.T) {
	for _, s := range []string{
		strings.Repeat("9", api.MaxDigits+1), strings.Repeat("0", api.MaxDigits+1), strings.Repeat("0", api.MaxDigits) + "7",
		"1" + strings.Repeat("0", api.MaxDigits), strings.Repeat("5", 20*api.MaxDigits),
	} {
		if a, err := nat.Parse(s); err != api.ErrLong || len(a) != 0 {
			t.Errorf("Parse of %d digits = %v, %d: want ErrLong alone", len(s), a, err)
		}
	}
}
