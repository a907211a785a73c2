package script_test

import (
	"strconv"
	"strings"
	"testing"

	"foliot/api"
	"foliot/script"
)

// head is what stands ahead of changes in many texts here.
const head = "horizon 5/2\ncascade 10\nbits 64\n"

func TestParse(t *testing.T) {
	// 19.1: the chapter's example, and others.
	for text, want := range map[string]string{
		head:                      "5/2; 10; 64",
		head + "at 1.5 v = -1\n":  "5/2; 10; 64; 3/2 v -1",
		head + "at 0 v = 0.0\n":   "5/2; 10; 64; 0 v 0",
		head + "at -1 v = 3\n":    "5/2; 10; 64; -1 v 3",
		head + "at 7 v = -0\n":    "5/2; 10; 64; 7 v 0",
		head + "at 6/4 v = 6/4\n": "5/2; 10; 64; 3/2 v 3/2",
		head + "at 2 v = 1\nat 1 _ = 2\nat 1 x_1Y = -0.50\n":     "5/2; 10; 64; 2 v 1; 1 _ 2; 1 x_1Y -1/2",
		head + "at 1 if = 1\nat 1 at = 1\nat 1 horizon = 1\n":    "5/2; 10; 64; 1 if 1; 1 at 1; 1 horizon 1",
		head + "at 1 a = 1\nat 1 z = 1\nat 1 aAZz09_ = 1\n":      "5/2; 10; 64; 1 a 1; 1 z 1; 1 aAZz09_ 1",
		"horizon -3\ncascade 0\nbits 0\n":                        "-3; 0; 0",
		"horizon 007/0049\ncascade 000000\nbits 000001\n":        "1/7; 0; 1",
		"horizon 0\ncascade 999999\nbits 999999\n":               "0; 999999; 999999",
		"horizon -0.0\ncascade 012345\nbits 7\n":                 "0; 12345; 7",
		"horizon 4294967296\ncascade 1\nbits 1\nat 1 v = -1/3\n": "4294967296; 1; 1; 1 v -1/3",
	} {
		is(t, text, parsed(text), want)
	}
}

func TestParseOfNone(t *testing.T) {
	// 19.1: the first line that is not as told.
	for text, want := range map[string]int{
		"":                                     1,
		"\n":                                   1,
		"horizon 1":                            1,
		"horizon\n":                            1,
		"horizon \n":                           1,
		"horizon  1\n":                         1,
		" horizon 1\n":                         1,
		"horizon 1 \n":                         1,
		"horizon\t1\n":                         1,
		"horizon 1\r\n":                        1,
		"horizon1\n":                           1,
		"Horizon 1\n":                          1,
		"horizon 1 1\n":                        1,
		"horizon 1/0\n":                        1,
		"horizon 1.\n":                         1,
		"horizon .5\n":                         1,
		"horizon +1\n":                         1,
		"horizon --1\n":                        1,
		"horizon 1/-2\n":                       1,
		"horizon 1e3\n":                        1,
		"horizon 1_0\n":                        1,
		"horizon x\ncascade x\nbits x\n":       1,
		"cascade 1\nhorizon 1\nbits 1\n":       1,
		"\xef\xbb\xbfhorizon 1\n":              1,
		"horizon 1\n":                          2,
		"horizon 1\n\n":                        2,
		"horizon 1\n\ncascade 1\nbits 1\n":     2,
		"horizon 1\ncascade 1":                 2,
		"horizon 1\ncascade \n":                2,
		"horizon 1\ncascade 1234567\n":         2,
		"horizon 1\ncascade 0000001\n":         2,
		"horizon 1\ncascade +1\n":              2,
		"horizon 1\ncascade -1\n":              2,
		"horizon 1\ncascade -0\n":              2,
		"horizon 1\ncascade 1/1\n":             2,
		"horizon 1\ncascade 1.0\n":             2,
		"horizon 1\ncascade 1_0\n":             2,
		"horizon 1\ncascade 0x1\n":             2,
		"horizon 1\ncascade 1 \n":              2,
		"horizon 1\ncascade 1 1\n":             2,
		"horizon 1\ncascade \u0663\n":          2,
		"horizon 1\ncascade 1\xff\n":           2,
		"horizon 1\nbits 1\ncascade 1\n":       2,
		"horizon 1\nhorizon 1\n":               2,
		"horizon 1\ncascade 1\n":               3,
		"horizon 1\ncascade 1\n\n":             3,
		"horizon 1\ncascade 1\nbits 1":         3,
		"horizon 1\ncascade 1\nbits x\n":       3,
		"horizon 1\ncascade 1\nbits 1000000\n": 3,
		"horizon 1\ncascade 1\nat 1 v = 1\n":   3,
		"horizon 1\ncascade 1\ncascade 1\n":    3,
		head + "\n":                            4,
		head + "\n\n":                          4,
		head + " ":                             4,
		head + " \n":                           4,
		head + "\x00":                          4,
		head + "bits 64\n":                     4,
		head + "at 1 v = 1":                    4,
		head + "at 1 v = 1 \n":                 4,
		head + "at 1 v = 1 1\n":                4,
		head + "at 1 v = \n":                   4,
		head + "at 1 v =\n":                    4,
		head + "at 1 v 1\n":                    4,
		head + "at 1 v == 1\n":                 4,
		head + "at 1 v=1\n":                    4,
		head + "at 1 v = 1/0\n":                4,
		head + "at 1 v = true\n":               4,
		head + "at x v = 1\n":                  4,
		head + "at  v = 1\n":                   4,
		head + "at 1  = 1\n":                   4,
		head + "at 1  v = 1\n":                 4,
		head + "at  1 v = 1\n":                 4,
		head + "At 1 v = 1\n":                  4,
		head + "1 v = 1\n":                     4,
		head + "at 1 v = 1\r\n":                4,
		head + "at 1 v, = 1\n":                 4,
		head + "at 1 v = 1\n\n":                5,
		head + "at 1 v = 1\nat 1 v = 1":        5,
		head + "at 1 v = 1\n\nat 1 v = 1\n":    5,
		head + "at 1 v = 1\nat v 1 = 1\nat\n":  5,
	} {
		is(t, text, parsed(text), "ErrScript "+strconv.Itoa(want))
	}
}

// nameStarts and nameRests are the bytes of a NAME.
const (
	nameStarts = "abcdefghijklmnopqrstuvwxyz_"
	nameRests  = nameStarts + "ABCDEFGHIJKLMNOPQRSTUVWXYZ0123456789"
)

// named is a script whose one change is of this input.
func named(input string) api.Script {
	return api.Script{Horizon: rat("1"), Cascade: 1, Bits: 1, Changes: []api.Change{{At: rat("1"), Input: input, Value: rat("1")}}}
}

// checkName asks of both ways whether a text is a NAME.
func checkName(t *testing.T, input string, name bool) {
	t.Helper()
	text := "horizon 1\ncascade 1\nbits 1\nat 1 " + input + " = 1\n"
	if name {
		is(t, input, parsed(text), "1; 1; 1; 1 "+input+" 1")
		is(t, input, printed(named(input)), text)
		return
	}
	is(t, input, parsed(text), "ErrScript 4")
	is(t, input, printed(named(input)), "ErrArg")
}

func TestNames(t *testing.T) {
	// 19.1, 19.2: every byte, alone, ahead of and behind others; letters and digits that are strange.
	for n := range 256 {
		c := string([]byte{byte(n)})
		start, rest := strings.Contains(nameStarts, c), strings.Contains(nameRests, c)
		checkName(t, c, start)
		checkName(t, c+"x", start)
		checkName(t, "x"+c, rest)
		checkName(t, "_"+c+"9", rest)
	}
	for _, input := range []string{"", "é", "xé", "xſ", "x\u212a", "x٣", "xａ", "ａ", "x\u0301", "x\xff", "x\xc3", "x\ufffd", "\U0001d4b3", "x\u00a0y", "x y", "x.y", "A", "9x", "Red"} {
		checkName(t, input, false)
	}
	for _, input := range []string{"if", "div", "at", "x__", "_9", "zZ", strings.Repeat("a", 60000)} {
		checkName(t, input, true)
	}
}

func TestEveryByte(t *testing.T) {
	// 19.1: the byte that parts, the one behind a line, and digits are no other ones.
	for n := range 256 {
		c := string([]byte{byte(n)})
		is(t, c, parsed("horizon"+c+"1\ncascade 1\nbits 1\n"), oneIf(c == " ", "1; 1; 1", "ErrScript 1"))
		is(t, c, parsed(head+"at 1"+c+"v = 1\n"), oneIf(c == " ", "5/2; 10; 64; 1 v 1", "ErrScript 4"))
		is(t, c, parsed(head+"at 1 v = 1"+c), oneIf(c == "\n", "5/2; 10; 64; 1 v 1", "ErrScript 4"))
		is(t, c, parsed(head+c), "ErrScript 4")
		digit := strings.Contains("0123456789", c)
		is(t, c, parsed("horizon 1\ncascade 1\nbits 1"+c+"\n"), oneIf(digit, "1; 1; 1"+c, oneIf(c == "\n", "ErrScript 4", "ErrScript 3")))
	}
}

func oneIf(is bool, yes, no string) string {
	if is {
		return yes
	}
	return no
}

// nines, tens: of n digits the greatest number, and the least.
func nines(n int) string { return strings.Repeat("9", n) }
func tens(n int) string  { return "1" + strings.Repeat("0", n-1) }

func TestDigits(t *testing.T) {
	// 19.1, 19.2: Num and Den have MaxDigits digits at most: as they are told, not as they are written.
	const most = api.MaxDigits
	noughts := strings.Repeat("0", most)
	for text, want := range map[string]string{
		nines(most):                          nines(most),
		"-" + nines(most):                    "-" + nines(most),
		"1/" + tens(most):                    "1/" + tens(most),
		"-" + tens(most) + "/" + nines(most): "-" + tens(most) + "/" + nines(most),
		"7." + noughts:                       "7",
		"0.5" + noughts[1:]:                  "1/2",
		"0." + noughts[2:] + "1":             "1/" + tens(most),
		"-9." + nines(most-1):                "-" + nines(most) + "/" + tens(most),
		noughts[1:] + "1":                    "1",
		"0." + noughts[1:] + "1":             "", // its Den has one more
		"1." + noughts[1:] + "2":             "5" + noughts[2:] + "1/5" + noughts[1:],
		"9." + nines(most):                   "",
		"-9." + nines(most):                  "",
		nines(most) + ".5":                   "",
		nines(most + 1):                      "",
		"-" + nines(most+1):                  "",
		"1/" + tens(most+1):                  "",
		"0" + noughts:                        "",
		"2/" + "2" + noughts:                 "",
		"1.0" + noughts:                      "",
	} {
		for i, line := range []string{"horizon " + text + "\ncascade 1\nbits 1\n", "horizon 1\ncascade 1\nbits 1\nat " + text + " v = 1\n", "horizon 1\ncascade 1\nbits 1\nat 1 v = " + text + "\n"} {
			no := oneIf(i == 0, "ErrScript 1", "ErrScript 4")
			yes := []string{want + "; 1; 1", "1; 1; 1; " + want + " v 1", "1; 1; 1; 1 v " + want}[i]
			is(t, line, parsed(line), oneIf(want == "", no, yes))
		}
	}
}

func TestLength(t *testing.T) {
	// 19.1: MaxSource bytes are allowed; one more is too long, whatever they are.
	line := "at 1 v = 1\n"
	count := (api.MaxSource - len(head)) / len(line)
	whole := head + strings.Repeat(line, count-1)
	last := "at 1 v" + strings.Repeat("x", api.MaxSource-len(whole)-len(line)) + " = 1\n"
	s, err, place := script.Parse([]byte(whole + last))
	if err != api.OK || place != 0 || len(s.Changes) != count || len(whole+last) != api.MaxSource {
		t.Fatal(err, place, len(s.Changes), count)
	}
	is(t, "one more", parsed(whole+"at 10"+last[4:]), "ErrLong 0")
	is(t, "one more behind", parsed(whole+last+"\n"), "ErrLong 0")
	is(t, "nothing right", parsed(strings.Repeat("\n", api.MaxSource+1)), "ErrLong 0")
	is(t, "nothing right", parsed(strings.Repeat("x", api.MaxSource)), "ErrScript 1")
	is(t, "no last line", parsed(whole+last[:len(last)-1]), "ErrScript "+strconv.Itoa(3+count))
	is(t, "one byte behind", parsed(whole+"\n"), "ErrScript "+strconv.Itoa(3+count))
}

// script1 is the chapter's example.
func script1() api.Script {
	return api.Script{Horizon: rat("5/2"), Cascade: 10, Bits: 64, Changes: []api.Change{{At: rat("3/2"), Input: "v", Value: rat("-1")}}}
}

func TestPrint(t *testing.T) {
	// 19.2: a script's text.
	is(t, "the example", printed(script1()), head+"at 3/2 v = -1\n")
	is(t, "none", printed(api.Script{}), "horizon 0\ncascade 0\nbits 0\n")
	s := api.Script{Horizon: rat("-1/3"), Cascade: 999999, Bits: 999999}
	is(t, "great counts", printed(s), "horizon -1/3\ncascade 999999\nbits 999999\n")
	for i, n := range []string{"2", "-1", "0", "1/4294967297"} {
		s.Changes = append(s.Changes, api.Change{At: rat(n), Input: "x" + strconv.Itoa(i), Value: rat("-" + strconv.Itoa(i) + "/4")})
	}
	is(t, "changes", printed(s), "horizon -1/3\ncascade 999999\nbits 999999\nat 2 x0 = 0\nat -1 x1 = -1/4\nat 0 x2 = -1/2\nat 1/4294967297 x3 = -3/4\n")
	long := named(strings.Repeat("x", 2*api.MaxSource))
	is(t, "more than a source has", printed(long), "horizon 1\ncascade 1\nbits 1\nat 1 "+long.Changes[0].Input+" = 1\n")
}

func TestPrintOfCounts(t *testing.T) {
	// 19.2: Cascade and Bits are from 0 to 999999.
	for n, ok := range map[int]bool{-1 << 63: false, -1: false, 0: true, 1: true, api.MaxBits + 1: true, 999999: true, 1000000: false, 1<<63 - 1: false} {
		s := api.Script{Cascade: n}
		is(t, "cascade", printed(s), oneIf(ok, "horizon 0\ncascade "+strconv.Itoa(n)+"\nbits 0\n", "ErrArg"))
		s = api.Script{Bits: n}
		is(t, "bits", printed(s), oneIf(ok, "horizon 0\ncascade 0\nbits "+strconv.Itoa(n)+"\n", "ErrArg"))
	}
}

func TestPrintOfDigits(t *testing.T) {
	// 19.2: MaxDigits digits a part, in each number, in whatever form it is handed in.
	const most = api.MaxDigits
	for text, ok := range map[string]bool{
		nines(most): true, "-" + nines(most): true, "1/" + tens(most): true, "-" + nines(most) + "/" + tens(most): true,
		tens(most + 1): false, "-" + tens(most+1): false, "1/" + tens(most+1): false, nines(most) + "/" + tens(most+1): false,
		tens(most+1) + "/" + nines(most): false, nines(2 * most): false,
	} {
		for _, a := range forms(rat(text)) {
			s := script1()
			s.Horizon = a
			is(t, text, printed(s), oneIf(ok, "horizon "+text+"\ncascade 10\nbits 64\nat 3/2 v = -1\n", "ErrArg"))
			s = script1()
			s.Changes[0].At = a
			is(t, text, printed(s), oneIf(ok, head+"at "+text+" v = -1\n", "ErrArg"))
			s = script1()
			s.Changes[0].Value = a
			is(t, text, printed(s), oneIf(ok, head+"at 3/2 v = "+text+"\n", "ErrArg"))
		}
	}
}

func TestPrintOfOneThatIsWrong(t *testing.T) {
	// 19.2: what is wrong in one change alone, wherever it stands.
	for at := range 5 {
		for _, wrong := range []api.Change{{At: rat("1"), Input: "X", Value: rat("1")}, {At: rat(tens(301)), Input: "x"}, {Input: "x", Value: rat("1/" + tens(301))}} {
			s := script1()
			for len(s.Changes) < 5 {
				s.Changes = append(s.Changes, s.Changes[0])
			}
			s.Changes[at] = wrong
			is(t, "one that is wrong", printed(s), "ErrArg")
		}
	}
}

func TestRight(t *testing.T) {
	// 19.2: as chapter 12 says, each thing by itself at its edges.
	ins := []string{"u", "v"}
	for what, x := range map[string]struct {
		change func(s *api.Script)
		right  bool
	}{
		"as it is":         {func(s *api.Script) {}, true},
		"without changes":  {func(s *api.Script) { s.Changes = nil }, true},
		"no changes":       {func(s *api.Script) { s.Changes = []api.Change{} }, true},
		"till 0":           {func(s *api.Script) { s.Horizon, s.Changes = rat("0"), nil }, true},
		"below 0":          {func(s *api.Script) { s.Horizon, s.Changes = rat("-1/1000"), nil }, false},
		"cascade -1":       {func(s *api.Script) { s.Cascade = -1 }, false},
		"cascade 0":        {func(s *api.Script) { s.Cascade = 0 }, true},
		"cascade greatest": {func(s *api.Script) { s.Cascade = api.MaxCount }, true},
		"cascade beyond":   {func(s *api.Script) { s.Cascade = api.MaxCount + 1 }, false},
		"bits -1":          {func(s *api.Script) { s.Bits = -1 }, false},
		"bits 0":           {func(s *api.Script) { s.Bits = 0 }, false},
		"bits 1":           {func(s *api.Script) { s.Bits = 1 }, true},
		"bits greatest":    {func(s *api.Script) { s.Bits = api.MaxBits }, true},
		"bits beyond":      {func(s *api.Script) { s.Bits = api.MaxBits + 1 }, false},
		"ahead of 0":       {func(s *api.Script) { s.Changes[0].At = rat("-1/1000") }, false},
		"at 0":             {func(s *api.Script) { s.Changes[0].At = rat("0") }, true},
		"at the horizon":   {func(s *api.Script) { s.Changes[2].At = rat("5/2") }, true},
		"behind it":        {func(s *api.Script) { s.Changes[2].At = rat("2501/1000") }, false},
		"at one time":      {func(s *api.Script) { s.Changes[1].At, s.Changes[2].At = rat("1"), rat("1") }, true},
		"a fall":           {func(s *api.Script) { s.Changes[1].At = rat("999/1000") }, false},
		"a fall at last":   {func(s *api.Script) { s.Changes[2].At = rat("1499/1000") }, false},
		"a fall to 0":      {func(s *api.Script) { s.Changes[2].At = rat("0") }, false},
		"none's":           {func(s *api.Script) { s.Changes[2].Input = "w" }, false},
		"without a name":   {func(s *api.Script) { s.Changes[0].Input = "" }, false},
		"large":            {func(s *api.Script) { s.Changes[0].Input = "V" }, false},
		"a part of a name": {func(s *api.Script) { s.Changes[0].Input = "v " }, false},
		"any value":        {func(s *api.Script) { s.Changes[0].Value = rat("-" + nines(400) + "/7") }, true},
		"any time":         {func(s *api.Script) { s.Changes[0].At = rat("1/" + nines(400)) }, true},
	} {
		s := api.Script{Horizon: rat("5/2"), Cascade: 10, Bits: 64}
		for i, at := range []string{"1", "3/2", "2"} {
			s.Changes = append(s.Changes, api.Change{At: rat(at), Input: ins[i%2], Value: rat("-1")})
		}
		x.change(&s)
		if got := script.Right(s, ins); got != x.right {
			t.Errorf("%s: %v", what, got)
		}
	}
}

func TestRightOfInputs(t *testing.T) {
	// 19.2: the inputs are names as they stand: none, one that stands twice, what is no NAME.
	for _, x := range []struct {
		input string
		ins   []string
		right bool
	}{
		{"v", nil, false}, {"v", []string{}, false}, {"v", []string{"v"}, true}, {"v", []string{"u", "w", "v", "v"}, true}, {"v", []string{"u", "vv", ""}, false},
		{"", nil, false}, {"", []string{"v"}, false}, {"", []string{""}, true}, {"X y", []string{"X y"}, true},
	} {
		if got := script.Right(named(x.input), x.ins); got != x.right {
			t.Errorf("%q of %q: %v", x.input, x.ins, got)
		}
	}
	if s := (api.Script{Horizon: rat("1"), Bits: 1}); !script.Right(s, nil) {
		t.Error("a script without changes")
	}
}

func TestForms(t *testing.T) {
	// 19.2: a number counts as what it says.
	for _, n := range []string{"0", "2", "1/2", "-1/3"} {
		for _, a := range forms(rat(n)) {
			s := api.Script{Horizon: a, Cascade: 1, Bits: 1, Changes: []api.Change{{At: a, Input: "v", Value: a}}}
			is(t, n, printed(s), "horizon "+n+"\ncascade 1\nbits 1\nat "+n+" v = "+n+"\n")
			if script.Right(s, []string{"v"}) != (n[0] != '-') {
				t.Error(n)
			}
		}
	}
}
