package ratio_test

import (
	"strings"
	"testing"

	"foliot/api"
	"foliot/integer"
	"foliot/ratio"
)

// Promise 3.3.

func TestPrint(t *testing.T) {
	for _, c := range []struct {
		a    api.Rat
		want string
	}{
		{fraction(0, 1), "0"}, {fraction(3, 2), "3/2"}, {fraction(-3, 2), "-3/2"}, {fraction(5, 1), "5"}, {fraction(-5, 1), "-5"},
		{fraction(1, 10), "1/10"}, {fraction(1, 1<<32), "1/4294967296"}, {fraction(1<<33, 1), "8589934592"}, {fraction(1, 11), "1/11"},
		{api.Rat{Num: integer.Of(6), Den: []uint32{4, 0}}, "3/2"}, {api.Rat{Num: integer.Of(-6), Den: []uint32{3}}, "-2"},
	} {
		if got := ratio.Print(c.a); got != c.want {
			t.Errorf("Print(%v) = %q, want %q", c.a, got, c.want)
		}
	}
	for _, zero := range noughts() {
		if got := ratio.Print(zero); got != "0" {
			t.Errorf("Print(%v) = %q, want 0", zero, got)
		}
	}
	pairs(func(a, b api.Rat) {
		if got, want := ratio.Print(a), bigOf(a).RatString(); got != want {
			t.Fatalf("Print(%v) = %s, want %s", a, got, want)
		}
	})
}

// most tells as many digits as a part may have.
func most(digit string) string { return strings.Repeat(digit, api.MaxDigits) }

func TestParse(t *testing.T) {
	for s, text := range map[string]string{
		"-1.50": "-3/2", "6/4": "3/2", "0.125": "1/8", "-0.5": "-1/2", "10/4": "5/2", "-10/4": "-5/2", "007": "7", "-0": "0", "-00": "0",
		"3.0": "3", "-3.0": "-3", "-0/5": "0", "0/5": "0", "-0.0": "0", "0.0": "0", "00.500": "1/2", "-00.25": "-1/4", "-0.05": "-1/20",
		"4/006": "2/3", "7/1": "7", "-7/7": "-1", "1/3": "1/3", "1.05": "21/20", "-12.5": "-25/2", "0.1": "1/10", "4294967296/8589934592": "1/2",
	} {
		if got := ratio.Print(parse(t, s)); got != text {
			t.Errorf("Parse(%q) is %s, want %s", s, got, text)
		}
	}
	for _, s := range []string{
		"0", "-7", "123456789012345678901234567890", "-9223372036854775808", "-123456789012345678901234567890.123456789012345678901234567890",
		most("9"), "-" + most("9"), most("9") + "/" + most("7"), "-" + most("1") + "/" + most("3"), most("9") + "." + most("9"),
		"-" + most("9") + "." + most("9"), "-0." + most("0")[1:] + "1", "0." + most("0"), "-" + most("0") + "." + most("0"),
		most("0") + "/" + most("0")[1:] + "2", "1/" + most("0")[1:] + "1", most("8") + "/2", most("2") + ".5",
	} {
		want(t, s, parse(t, s), number(t, s))
	}
}

func TestParseOfWhatIsNone(t *testing.T) {
	long := most("1") + "1"
	for _, s := range []string{
		"", "-", "--", "--1", "+1", "-+1", "1-", " 1", "1 ", "-\n1", "a", "1a", "\x00", "\xff", "1\xff/2", "\u0661", "1e3", "0x1", "1_0",
		"/", "-/", "1/", "-1/", "/2", "-/2", "1/2/3", "1//2", "1/-2", "-1/-2", "1/+2", "1 /2", "1/ 2", "1/2 ", "1/a", "a/2", "1/\x00", "--1/2",
		".", "-.", "5.", "-5.", ".5", "-.5", "1.2.3", "1..2", "1.-2", "-1.-2", "1.+2", "1 .2", "1. 2", "1.2 ", "1.a", "a.2", "--1.2", "1.5e3",
		"1.2/3", "1/2.3", "1/.5", "1./2", "1.2/3.4", "/.", "./", "1.5-", "1/2-", "-1.5/2", "1\u22442", "1\uff0f2", "1\uff0e2", "1,5",
		"1/0", "-1/0", "0/0", "1/00", "-0/000", "1/" + most("0"), most("1") + "/0", most("1") + "/" + most("0"),
	} {
		wantError(t, s, api.ErrForm)
	}
	// What is none is told ahead of what is too long, whatever part it is in.
	for _, s := range []string{
		"x/" + long, long + "/", long + "/x", "/" + long, long + "x", "-" + long + "x", "x" + long, long + "/" + long + "x", "x" + long + "/" + long,
		long + "/-0", long + "/0x", long + "/0/", "a/" + most("0") + "0", "-/" + most("0") + "0",
		"x." + long, long + ".", long + ".x", "." + long, "-." + long, long + "." + long + "x", long + ".1/2", long + "/1.2", long + "." + long + "." + long,
	} {
		wantError(t, s, api.ErrForm)
	}
}

func TestParseOfTooManyDigits(t *testing.T) {
	long := most("1") + "1"
	zeros := most("0") + "0"
	for _, s := range []string{
		long, "-" + long, zeros, "-" + zeros, zeros + "1",
		long + "/2", "-" + long + "/2", "1/" + long, "-1/" + long, long + "/" + long, zeros + "/1", "0/" + zeros + "1",
		long + ".5", "-" + long + ".5", "0." + long, "-0." + long, long + "." + long, "0." + zeros, zeros + ".0",
		// Digits behind / that say 0 are told behind what is too long.
		"1/" + zeros, "-0/" + zeros, long + "/0", "-" + long + "/00", long + "/" + most("0"), long + "/" + zeros, zeros + "/" + zeros,
	} {
		wantError(t, s, api.ErrLong)
	}
}

func wantError(t *testing.T, s string, want api.Errno) {
	t.Helper()
	if a, err := ratio.Parse(s); err != want || !none(a) {
		t.Errorf("Parse(%q) = %v, %d: want error %d alone", s, a, err, want)
	}
}
