package integer_test

import (
	"math/big"
	"strings"
	"testing"

	"foliot/api"
	"foliot/integer"
)

// Promise 2.3.

func TestPrint(t *testing.T) {
	for _, c := range []struct {
		a    api.Int
		want string
	}{
		{api.Int{}, "0"}, {api.Int{Neg: true}, "0"}, {api.Int{Neg: true, Mag: []uint32{0, 0}}, "0"},
		{api.Int{Mag: []uint32{7, 0}}, "7"}, {api.Int{Neg: true, Mag: []uint32{7, 0}}, "-7"},
		{api.Int{Neg: true, Mag: []uint32{0, 1}}, "-4294967296"}, {api.Int{Neg: true, Mag: []uint32{1000000000}}, "-1000000000"},
		{api.Int{Neg: true, Mag: []uint32{0, 1 << 31}}, "-9223372036854775808"},
	} {
		if got := integer.Print(c.a); got != c.want {
			t.Errorf("Print(%v) = %q, want %q", c.a, got, c.want)
		}
	}
	pairs(func(a, b api.Int) {
		if got, want := integer.Print(a), bigOf(a).String(); got != want {
			t.Fatalf("Print(%v) = %s, want %s", a, got, want)
		}
	})
}

// most tells as many digits as a text may have.
func most(digit string) string { return strings.Repeat(digit, api.MaxDigits) }

func TestParse(t *testing.T) {
	for _, s := range []string{
		"0", "-0", "-00", "00", "7", "-7", "007", "-007", "4294967296", "-4294967296", "-9223372036854775808", "-9223372036854775809",
		"-123456789012345678901234567890", most("9"), "-" + most("9"), most("0"), "-" + most("0"), "-" + most("0")[1:] + "3",
	} {
		a, err := integer.Parse(s)
		if err != api.OK {
			t.Fatalf("Parse(%q): %d", s, err)
		}
		want(t, s, a, number(t, s))
	}
	a, err := integer.Parse("-0")
	if err != api.OK {
		t.Fatal(err)
	}
	want(t, "-0", a, big.NewInt(0))
}

func TestParseOfWhatIsNone(t *testing.T) {
	long := most("1")
	for _, s := range []string{
		"", "-", "--", "--1", "-+1", "+1", "+", "+-1", "1-", "-1-", "1-1", "- 1", " -1", "-1 ", " 1", "1 ", "-\n1", "-1\n",
		"1.0", "-1.5", "1/2", "-1/2", "1e3", "-0x1", "-1_000", "a", "-a", "-1a", "\x00", "-\x00", "-1\x00", "\xff", "-\xff",
		"\u22121", "\u2212", "-\u0661", "-\uff11", "(1)", "-.", "-/", "-:",
		"-" + long + "x", "--" + long, "-x" + long, long + "-", "-" + long + "-" + long, "-" + long + long + "x", "--" + long + long,
	} {
		if a, err := integer.Parse(s); err != api.ErrForm || !same(a, api.Int{}) {
			t.Errorf("Parse(%q) = %v, %d: want ErrForm alone", s, a, err)
		}
	}
}

func TestParseOfTooManyDigits(t *testing.T) {
	for _, s := range []string{
		most("9") + "9", "-" + most("9") + "9", "-" + most("0") + "0", most("0") + "1", "-" + most("0") + "1", "-" + strings.Repeat(most("5"), 9),
	} {
		if a, err := integer.Parse(s); err != api.ErrLong || !same(a, api.Int{}) {
			t.Errorf("Parse of %d bytes = %v, %d: want ErrLong alone", len(s), a, err)
		}
	}
}
