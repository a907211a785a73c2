package trace_test

import (
	"maps"
	"slices"
	"strconv"
	"strings"
	"testing"

	"foliot/api"
	"foliot/trace"
)

// example is the chapter's.
func example() api.Trace {
	return api.Trace{Entries: []api.Entry{{At: rat("1/2"), Outs: row(truth("1"), ctor("Red"))}}, End: api.EndDone, At: rat("1")}
}

// both asks for a trace's text, and for the trace of that text.
func both(t *testing.T, x api.Trace, text, want string) {
	t.Helper()
	is(t, want, encoded(x), text)
	is(t, text, decoded(text), want)
}

func TestTexts(t *testing.T) {
	// 20.1, 20.2: a trace's text, and a text's trace.
	both(t, example(), "1/2 0: true Red\ndone 1\n", "1/2 0 bool:1 ctor:Red; end 1 1 0")
	both(t, api.Trace{End: api.EndDone}, "done 0\n", "end 1 0 0")
	both(t, api.Trace{End: api.EndDone, At: rat("-7/3")}, "done -7/3\n", "end 1 -7/3 0")
	both(t, api.Trace{End: api.EndDiv, At: rat("5/2"), Index: 3}, "div 5/2 3\n", "end 2 5/2 3")
	both(t, api.Trace{End: api.EndCascade, At: rat("2"), Index: 999999}, "cascade 2 999999\n", "end 3 2 999999")
	both(t, api.Trace{End: api.EndBig, At: rat("0")}, "big 0 0\n", "end 4 0 0")
	both(t, api.Trace{Entries: []api.Entry{
		{At: rat("0"), Outs: row(num("-3/2"), truth("0"), api.Value{}, truth("1"), num("0"), num("12"), ctor("T"))},
		{At: rat("0"), Index: 1},
		{At: rat("2"), Index: 10, Outs: []api.Value{}},
		{At: rat("-1/4294967297"), Index: 999999, Outs: row(api.Value{})},
	}, End: api.EndCascade, At: rat("2"), Index: 5},
		"0 0: -3/2 false ? true 0 12 T\n0 1:\n2 10:\n-1/4294967297 999999: ?\ncascade 2 5\n",
		"0 0 num:-3/2 bool:0 nil bool:1 num:0 num:12 ctor:T; 0 1; 2 10; -1/4294967297 999999 nil; end 3 2 5")
}

func TestOrderOfEntries(t *testing.T) {
	// 20.1: nothing is asked of how entries follow one another, of how many values they have, of where a run ended.
	both(t, api.Trace{Entries: []api.Entry{{At: rat("3"), Index: 7, Outs: row(num("1"))}, {At: rat("1"), Index: 7, Outs: row(ctor("A"), truth("0"))}, {At: rat("1"), Index: 7}}, End: api.EndDone, At: rat("-5")},
		"3 7: 1\n1 7: A false\n1 7:\ndone -5\n", "3 7 num:1; 1 7 ctor:A bool:0; 1 7; end 1 -5 0")
}

func TestWhatDoesNotCount(t *testing.T) {
	// 20.1: what a value has beside what its kind says is not asked for: a name beside a number, a number beside a name.
	long := rat(tens(400) + "/7")
	x := example()
	x.Entries[0].Outs = row(
		api.Value{Num: long, Name: "no name"},
		api.Value{Kind: api.VBool, Num: rat("1"), Name: "X"},
		api.Value{Kind: api.VNum, Num: rat("1"), Name: "x y"},
		api.Value{Kind: api.VCtor, Num: long, Name: "Red"},
	)
	both(t, x, "1/2 0: ? true 1 Red\ndone 1\n", "1/2 0 nil bool:1 num:1 ctor:Red; end 1 1 0")
}

func TestForms(t *testing.T) {
	// 20.1: a number counts as what it says.
	for _, n := range []string{"0", "1", "2", "1/2", "-1/3"} {
		for _, a := range forms(rat(n)) {
			x := api.Trace{Entries: []api.Entry{{At: a, Outs: row(api.Value{Kind: api.VNum, Num: a})}}, End: api.EndDone, At: a}
			is(t, n, encoded(x), n+" 0: "+n+"\ndone "+n+"\n")
			x.Entries[0].Outs[0].Kind = api.VBool
			text := oneIf(n == "0", "false", "true")
			is(t, n, encoded(x), oneIf(n == "0" || n == "1", n+" 0: "+text+"\ndone "+n+"\n", "ErrArg"))
		}
	}
}

func TestEnds(t *testing.T) {
	// 20.1: a run ended in one of four ways; one that is done has the index 0.
	words := map[int]string{api.EndDone: "done", api.EndDiv: "div", api.EndCascade: "cascade", api.EndBig: "big"}
	for _, end := range []int{-1 << 63, -1, 0, 1, 2, 3, 4, 5, 6, 1<<63 - 1} {
		for _, n := range []int{-1 << 63, -1, 0, 1, 2, 999999, 1000000, 1<<63 - 1} {
			x := example()
			x.End, x.Index = end, n
			right := words[end] != "" && 0 <= n && n <= api.MaxCount && (end != api.EndDone || n == 0)
			text := "1/2 0: true Red\n" + words[end] + " 1" + oneIf(end == api.EndDone, "", " "+strconv.Itoa(n)) + "\n"
			is(t, text, encoded(x), oneIf(right, text, "ErrArg"))
			if end != api.EndDone && words[end] != "" {
				is(t, text, decoded(text), oneIf(right, told(x), "ErrForm"))
			}
		}
	}
}

func TestIndices(t *testing.T) {
	// 20.1, 20.2: an entry's index, however the run ended.
	for _, end := range []string{"done 1", "div 1 0", "cascade 1 7", "big 1 0"} {
		for _, n := range []int{-1 << 63, -1000000, -1, 0, 1, 9, 10, 99999, 100000, 999999, 1000000, 1<<31 - 1, 1<<63 - 1} {
			text := "1 " + strconv.Itoa(n) + ": 2\n" + end + "\n"
			right := 0 <= n && n <= api.MaxCount
			if !right {
				is(t, text, decoded(text), "ErrForm")
			}
			x, err := trace.Decode([]byte("1 0: 2\n" + end + "\n"))
			if err != api.OK {
				t.Fatal(end, err)
			}
			x.Entries[0].Index = n
			is(t, text, encoded(x), oneIf(right, text, "ErrArg"))
			if right {
				is(t, text, decoded(text), told(x))
			}
		}
	}
}

func TestKindsOfValues(t *testing.T) {
	// 20.1: nothing, a truth of 0 or 1, a number, a constructor; nothing else.
	for text, v := range map[string]api.Value{
		"?":          {},
		"false":      truth("0"),
		"true":       truth("1"),
		"ErrArg":     truth("2"),
		"ErrArg 2":   truth("-1"),
		"ErrArg 3":   truth("1/2"),
		"ErrArg 4":   {Kind: api.VBool, Num: rat(tens(400))},
		"ErrArg 5":   {Kind: 4, Num: rat("1"), Name: "Red"},
		"ErrArg 6":   {Kind: -1},
		"ErrArg 7":   {Kind: -1 << 63},
		"ErrArg 8":   {Kind: 1<<63 - 1},
		"ErrArg 9":   ctor(""),
		"ErrArg 10":  ctor("red"),
		"7":          num("7"),
		"-1/7":       num("-1/7"),
		"Red":        ctor("Red"),
		"ErrArg 11":  ctor("true"),
		"ErrArg 12":  ctor("?"),
		"ErrArg 13":  ctor("1"),
		"ErrArg 14":  ctor("A B"),
		"ErrArg 15":  ctor("A\n"),
		"ErrArg 16":  ctor("A -- B"),
		"ErrArg 17":  ctor("_A"),
		"True":       ctor("True"),
		"A_9z":       ctor("A_9z"),
		"ErrArg 18":  {Kind: api.VCtor, Num: rat("1")},
		"ErrArg Red": {Kind: 5, Name: "Red"},
	} {
		x := example()
		x.Entries[0].Outs[1] = v
		is(t, text, encoded(x), oneIf(strings.HasPrefix(text, "ErrArg"), "ErrArg", "1/2 0: true "+text+"\ndone 1\n"))
	}
}

func TestOneThatIsWrong(t *testing.T) {
	// 20.1: what is wrong in one entry alone, wherever it stands, and in one value of it.
	long := rat("1/" + tens(301))
	for at := range 5 {
		for i, spoil := range []func(e *api.Entry){
			func(e *api.Entry) { e.At = long },
			func(e *api.Entry) { e.Index = -1 },
			func(e *api.Entry) { e.Index = 1000000 },
			func(e *api.Entry) { e.Outs[0] = ctor("a") },
			func(e *api.Entry) { e.Outs[1] = truth("2") },
			func(e *api.Entry) { e.Outs[2].Num = long },
			func(e *api.Entry) { e.Outs[2].Kind = 9 },
			func(e *api.Entry) {},
		} {
			x := api.Trace{End: api.EndBig, At: rat("1")}
			for range 5 {
				x.Entries = append(x.Entries, api.Entry{At: rat("1"), Outs: row(ctor("A"), truth("0"), num("2"))})
			}
			spoil(&x.Entries[at])
			is(t, strconv.Itoa(i), encoded(x), oneIf(i < 7, "ErrArg", strings.Repeat("1 0: A false 2\n", 5)+"big 1 0\n"))
		}
	}
	x := example()
	x.At = long
	is(t, "the end", encoded(x), "ErrArg")
}

func TestDigits(t *testing.T) {
	// 20.1, 20.2: MaxDigits digits a part, in each number and time, in whatever form it is handed in.
	const most = api.MaxDigits
	for text, ok := range map[string]bool{
		nines(most): true, "-" + nines(most): true, "1/" + tens(most): true, "-" + nines(most) + "/" + tens(most): true,
		tens(most + 1): false, "-" + tens(most+1): false, "1/" + tens(most+1): false, nines(most) + "/" + tens(most+1): false,
		tens(most+1) + "/" + nines(most): false, nines(2 * most): false, "-1/" + nines(most+1): false,
	} {
		for place, whole := range []string{text + " 0: true Red\ndone 1\n", "1/2 0: true " + text + "\ndone 1\n", "1/2 0: true Red\ndone " + text + "\n", "1/2 0: true Red\nbig " + text + " 2\n"} {
			for _, a := range forms(rat(text)) {
				x := example()
				switch place {
				case 0:
					x.Entries[0].At = a
				case 1:
					x.Entries[0].Outs[1] = api.Value{Kind: api.VNum, Num: a}
				case 2:
					x.At = a
				case 3:
					x.End, x.At, x.Index = api.EndBig, a, 2
				}
				is(t, text, encoded(x), oneIf(ok, whole, "ErrArg"))
			}
			again := decoded(whole)
			if ok != (again != "ErrForm") || ok && !strings.Contains(again, text) {
				t.Error(text, again)
			}
		}
	}
}

// noTraces are texts of none, by what is wrong with them.
var noTraces = map[string][]string{
	"no last line":  {"", "\n", "1 0:\n", "1/2 0: true Red\n", "0 0:\n0 1:\n", "\n\n"},
	"not ended":     {"done 1", "div 1 0", "1 0:\ndone 1", "done 1\n1 0:\n", "done 1\ndone", "done 1 "},
	"something on":  {"done 1\n\n", "done 1\n ", "done 1\ndone 1\n", "done 1\n1 0:\ndone 1\n", "done 1\nx", "done 1\n\ndone 1\n", "big 1 1\n\n"},
	"a blank line":  {"\ndone 1\n", "1 0:\n\ndone 1\n", " \ndone 1\n", "1 0: 1\n\n1 1: 1\ndone 1\n"},
	"a last line":   {"done\n", "done \n", "done 1 0\n", "done 1 1\n", "done  1\n", "done 1 \n", " done 1\n", "Done 1\n", "don 1\n", "dones 1\n", "done:1\n", "done 1:\n", "done 1 0:\n", "1\n", " 1 0\n", " 1\n", "end 1\n", "done\t1\n", "done 1\r\n", "done ?\n", "done Red\n", "done -\n", "1 done\n"},
	"a stop":        {"div\n", "div 1\n", "div 1 \n", "div  1 0\n", "div 1  0\n", "div 1 0 \n", "div 1 0 0\n", "div 1 0:\n", "cascade 1\n", "big 1\n", "big 1 x\n", "bigs 1 0\n", "cascades 1 0\n", "Big 1 0\n", "div 0 1/1\n", "big x 1\n", "1 1 1\n", "stop 1 0\n"},
	"an index":      {"div 1 00\n", "div 1 01\n", "div 1 -0\n", "div 1 -1\n", "div 1 +1\n", "div 1 1000000\n", "div 1 1.0\n", "div 1 0x1\n", "div 1 1_0\n", "div 1 18446744073709551616\n", "big 1 ٣\n", "div 1 true\n"},
	"a head":        {"1\ndone 1\n", "1 0\ndone 1\n", "1 0 :\ndone 1\n", "1: 0\ndone 1\n", "1 0: 1:\ndone 1\n", "1 0::\ndone 1\n", "1 :\ndone 1\n", " 0:\ndone 1\n", "0:\ndone 1\n", "1  0:\ndone 1\n", " 1 0:\ndone 1\n", "1\t0:\ndone 1\n", "1:0:\ndone 1\n", "1 0;\ndone 1\n", "1 0:1\ndone 1\n", "1 0 1\ndone 1\n", ":\ndone 1\n", "1 ::\ndone 1\n", "1 2 0:\ndone 1\n"},
	"its index":     {"1 00: 1\ndone 1\n", "1 -0: 1\ndone 1\n", "1 +1: 1\ndone 1\n", "1 1000000: 1\ndone 1\n", "1 -1:\ndone 1\n", "1 1.0:\ndone 1\n", "1 x:\ndone 1\n", "1 1/1:\ndone 1\n", "1 99999999999999999999:\ndone 1\n", "1 0x1:\ndone 1\n", "1 1_0:\ndone 1\n"},
	"its blanks":    {"1 0: \ndone 1\n", "1 0:  1\ndone 1\n", "1 0: 1 \ndone 1\n", "1 0: 1  1\ndone 1\n", "1 0: 1\t1\ndone 1\n", "1 0: 1\r\ndone 1\n", "1 0: 1 \n", "1 0:\t1\ndone 1\n"},
	"a value":       {"1 0: red\ndone 1\n", "1 0: True!\ndone 1\n", "1 0: TRUE-\ndone 1\n", "1 0: ??\ndone 1\n", "1 0: -\ndone 1\n", "1 0: ?1\ndone 1\n", "1 0: true?\ndone 1\n", "1 0: nil\ndone 1\n", "1 0: _A\ndone 1\n", "1 0: A.B\ndone 1\n", "1 0: A--\ndone 1\n", "1 0: --\ndone 1\n", "1 0: A;\ndone 1\n", "1 0: 1:\ndone 1\n", "1 0: tru\ndone 1\n", "1 0: falsex\ndone 1\n", "1 0: done\ndone 1\n", "1 0: 1 red 1\ndone 1\n"},
	"a number":      {"1 0: 2/4\ndone 1\n", "1 0: 01\ndone 1\n", "1 0: -0\ndone 1\n", "1 0: 1/1\ndone 1\n", "1 0: 2/1\ndone 1\n", "1 0: 0/1\ndone 1\n", "1 0: 0.5\ndone 1\n", "1 0: 1.0\ndone 1\n", "1 0: +1\ndone 1\n", "1 0: 1/0\ndone 1\n", "1 0: 1/02\ndone 1\n", "1 0: 01/2\ndone 1\n", "1 0: -01/2\ndone 1\n", "1 0: 1/-2\ndone 1\n", "1 0: --1\ndone 1\n", "1 0: 1e3\ndone 1\n", "1 0: 0x1\ndone 1\n", "1 0: 1_0\ndone 1\n", "1 0: ٣\ndone 1\n", "1 0: 1/\ndone 1\n", "1 0: /2\ndone 1\n", "1 0: 1/2/3\ndone 1\n", "1 0: .5\ndone 1\n", "1 0: 1.\ndone 1\n"},
	"a time":        {"2/4 0: 1\ndone 1\n", "01 0: 1\ndone 1\n", "-0 0: 1\ndone 1\n", "0.5 0: 1\ndone 1\n", "1/1 0:\ndone 1\n", "? 0:\ndone 1\n", "Red 0:\ndone 1\n", "true 0:\ndone 1\n", "1/0 0:\ndone 1\n", "- 0:\ndone 1\n"},
	"its last time": {"done 2/4\n", "done 01\n", "done -0\n", "done 0.5\n", "done 1/1\n", "done 1/0\n", "div 2/4 0\n", "big -0 0\n", "cascade 1.0 0\n"},
	"strange bytes": {"\x00", "done 1\n\x00", "done \xff\n", "1 0: \xc3\xa9\ndone 1\n", "1 0: A\xc3\xa9\ndone 1\n", "1\u00a00:\ndone 1\n", "\ufeffdone 1\n", "1 0: Ａ\ndone 1\n", "1 0: 1\x00\ndone 1\n"},
}

func TestNoTraces(t *testing.T) {
	// 20.2: anything else is no trace's text.
	for _, what := range slices.Sorted(maps.Keys(noTraces)) {
		for _, text := range noTraces[what] {
			is(t, what+" "+text, decoded(text), "ErrForm")
		}
	}
}

func TestEveryByte(t *testing.T) {
	// 20.1, 20.2: what parts, what ends, what a constructor's name and a number are made of: every byte, everywhere.
	letters := "abcdefghijklmnopqrstuvwxyzABCDEFGHIJKLMNOPQRSTUVWXYZ"
	digits := "0123456789"
	for n := range 256 {
		c := string([]byte{byte(n)})
		digit, large := strings.Contains(digits, c), strings.Contains(letters[26:], c)
		same := func(text, want string, right bool) {
			t.Helper()
			is(t, text, decoded(text), oneIf(right, want, "ErrForm"))
		}
		same("1"+c+"0:\ndone 1\n", "1 0; end 1 1 0", c == " ")
		same("1 0"+c+"\ndone 1\n", "1 0; end 1 1 0", c == ":")
		same("1 0:"+c+"2\ndone 1\n", "1 0 num:2; end 1 1 0", c == " ")
		same("1 0: 2"+c+"done 1\n", "1 0 num:2; end 1 1 0", c == "\n")
		same("done"+c+"1\n", "end 1 1 0", c == " ")
		same("done 1"+c, "end 1 1 0", c == "\n")
		same("done 1\n"+c, "", false)
		same(c+"done 1\n", "", false)
		same("div 1"+c+"2\n", "end 2 1 2", c == " ")
		same("div 1 2"+c, "end 2 1 2", c == "\n")
		same("done 1"+c+"\n", "end 1 1"+c+" 0", digit)
		same("div 1 2"+c+"\n", "end 2 1 2"+c, digit)
		same("1 2"+c+":\ndone 1\n", "1 2"+c+"; end 1 1 0", digit)
		one := "1 0: " + c + "\ndone 1\n"
		switch {
		case digit:
			same(one, "1 0 num:"+c+"; end 1 1 0", true)
		case c == "?":
			same(one, "1 0 nil; end 1 1 0", true)
		default:
			same(one, "1 0 ctor:"+c+"; end 1 1 0", large)
		}
		checkCtor(t, c, large)
		checkCtor(t, c+"x", large)
		checkCtor(t, "X"+c, digit || c == "_" || strings.Contains(letters, c))
		checkCtor(t, "X"+c+"9", digit || c == "_" || strings.Contains(letters, c))
	}
}

// checkCtor asks of both ways whether a text is a constructor's token.
func checkCtor(t *testing.T, name string, right bool) {
	t.Helper()
	x := example()
	x.Entries[0].Outs[1] = ctor(name)
	text := "1/2 0: true " + name + "\ndone 1\n"
	is(t, name, encoded(x), oneIf(right, text, "ErrArg"))
	want := decoded(text)
	if right {
		is(t, name, want, "1/2 0 bool:1 ctor:"+name+"; end 1 1 0")
	} else if strings.Contains(want, "ctor:"+name+";") {
		t.Errorf("%q: %q", name, want)
	}
}

func TestCtors(t *testing.T) {
	// 20.1, 20.2: a constructor's token, as layer 4 has it: of MaxSource bytes at most.
	for name, right := range map[string]bool{
		"Red": true, "T": true, "True": true, "Done": true, "X_": true, "X__9": true, "": false, "red": false, "_X": false, "9X": false, "é": false, "Xé": false, "É": false,
		"X Y": false, "X\n": false, " X": false, "X ": false, "X\t": false, "X--": false, "X.Y": false, "X\x00": false, "true": false, "false": false, "?": false, "1": false, "-1": false, "X:": false, "Ａ": false, "X\u0301": false,
		strings.Repeat("X", api.MaxSource): true, strings.Repeat("X", api.MaxSource+1): false,
	} {
		checkCtor(t, name, right)
	}
}

func TestLong(t *testing.T) {
	// 20.1, 20.2: a trace's text is of any length.
	x := api.Trace{End: api.EndCascade, At: rat("7"), Index: 60000}
	var want strings.Builder
	for i := range 60000 {
		x.Entries = append(x.Entries, api.Entry{At: rat("7"), Index: i, Outs: row(num(strconv.Itoa(i)), api.Value{})})
		want.WriteString("7 " + strconv.Itoa(i) + ": " + strconv.Itoa(i) + " ?\n")
	}
	text := want.String() + "cascade 7 60000\n"
	is(t, "long", encoded(x), text)
	is(t, "long", decoded(text), told(x))
	is(t, "long", decoded(text[:len(text)-1]), "ErrForm")
	wide := api.Trace{Entries: []api.Entry{{At: rat("1"), Outs: slices.Repeat(row(truth("1"), ctor("X")), 50000)}}, End: api.EndDone, At: rat("1")}
	text = "1 0:" + strings.Repeat(" true X", 50000) + "\ndone 1\n"
	is(t, "wide", encoded(wide), text)
	is(t, "wide", decoded(text), told(wide))
	is(t, "blanks", decoded(strings.Repeat(" ", 1<<20)+"\n"), "ErrForm")
	is(t, "lines", decoded(strings.Repeat("\n", 1<<20)), "ErrForm")
	is(t, "digits", decoded("1 0: "+nines(1<<20)+"\ndone 1\n"), "ErrForm")
	is(t, "digits", decoded("1 "+nines(1<<20)+":\ndone 1\n"), "ErrForm")
	is(t, "letters", decoded("1 0: "+strings.Repeat("X", 1<<20)+"\ndone 1\n"), "ErrForm")
}
