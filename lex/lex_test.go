package lex_test

import (
	"math/rand"
	"strings"
	"testing"

	"foliot/api"
	"foliot/lex"
)

// Promise 4.1.

func TestTokensByHand(t *testing.T) {
	for text, want := range map[string]string{
		"x=-1.5;--end":                       "name x; sign =; sign -; num 1.5; sign ;; end",
		"->=":                                "sign ->; sign =; end",
		"":                                   "end",
		" \t\r\n":                            "end",
		"--":                                 "end",
		"-- x = 1":                           "end",
		"-- x\ny":                            "name y; end",
		"--x\ry\nz":                          "name z; end",
		"a--b\n--c\n\nd":                     "name a; name d; end",
		"->--x\n->":                          "sign ->; sign ->; end",
		"-->x\n1":                            "num 1; end",
		"- -x":                               "sign -; sign -; name x; end",
		"---\n-":                             "sign -; end",
		"<--x":                               "sign <; end",
		"a-b":                                "name a; sign -; name b; end",
		"<=<=>=>==!==":                       "sign <=; sign <=; sign >=; sign >=; sign =; sign !=; sign =; end",
		"===":                                "sign ==; sign =; end",
		"<->":                                "sign <; sign ->; end",
		"=>":                                 "sign =; sign >; end",
		"=!=":                                "sign =; sign !=; end",
		"<>|->":                              "sign <; sign >; sign |; sign ->; end",
		"iff if If IF i f":                   "name iff; word if; ctor If; ctor IF; name i; name f; end",
		"_ _1 __ _A a_B1":                    "name _; name _1; name __; name _A; name a_B1; end",
		"if_ _if if1 ifx":                    "name if_; name _if; name if1; name ifx; end",
		"A A1 A_ Ab_9 AbC":                   "ctor A; ctor A1; ctor A_; ctor Ab_9; ctor AbC; end",
		"1 00 007 1.50 0.0 12.034":           "num 1; num 00; num 007; num 1.50; num 0.0; num 12.034; end",
		"1x 1.5x 1_ 2Red 0if":                "num 1; name x; num 1.5; name x; num 1; name _; num 2; ctor Red; num 0; word if; end",
		"pre(x)fby{not}":                     "word pre; sign (; name x; sign ); word fby; sign {; word not; sign }; end",
		"n: int, b :bool|rat":                "name n; sign :; word int; sign ,; name b; sign :; word bool; sign |; word rat; end",
		"x+1*2/3 div 4mod 5":                 "name x; sign +; num 1; sign *; num 2; sign /; num 3; word div; num 4; word mod; num 5; end",
		"nodenode node\nnode":                "name nodenode; word node; word node; end",
		"--\xff\x00\x80\"#!.\n1":             "num 1; end",
		"up(x-1)--\n->y":                     "word up; sign (; name x; sign -; num 1; sign ); sign ->; name y; end",
		"last continue automata automaton":   "word last; word continue; name automata; word automaton; end",
		"1.25->Red":                          "num 1.25; sign ->; ctor Red; end",
		strings.Repeat("9", api.MaxDigits+1): "num " + strings.Repeat("9", api.MaxDigits+1) + "; end",
		"0." + strings.Repeat("1", 2*api.MaxBits): "num 0." + strings.Repeat("1", 2*api.MaxBits) + "; end",
	} {
		if got := said(tokens(t, text)); got != want {
			t.Errorf("Tokens(%q): %s, want %s", text, got, want)
		}
	}
}

func TestWords(t *testing.T) {
	if n := len(words()); n != 36 {
		t.Fatalf("%d words", n)
	}
	for _, word := range words() {
		for text, want := range map[string]string{
			word: "word " + word, word + "a": "name " + word + "a", word + "Z": "name " + word + "Z", word + "0": "name " + word + "0",
			word + "_": "name " + word + "_", "_" + word: "name _" + word, strings.ToUpper(word): "ctor " + strings.ToUpper(word),
			word + "(": "word " + word + "; sign (", word + "--": "word " + word, "7" + word: "num 7; word " + word,
		} {
			if got := said(tokens(t, text)); got != want+"; end" {
				t.Errorf("Tokens(%q): %s, want %s", text, got, want)
			}
		}
	}
}

func TestSigns(t *testing.T) {
	if n := len(signs()); n != 20 {
		t.Fatalf("%d signs", n)
	}
	for _, sign := range signs() {
		for _, text := range []string{sign, " " + sign + "\n", "\t" + sign + " --" + sign} {
			if got := said(tokens(t, text)); got != "sign "+sign+"; end" {
				t.Errorf("Tokens(%q): %s", text, got)
			}
		}
		if got := said(tokens(t, "x"+sign+"1")); got != "name x; sign "+sign+"; num 1; end" {
			t.Errorf("%q between: %s", sign, got)
		}
	}
}

func TestPlaces(t *testing.T) {
	want := []api.Token{
		{Kind: api.TWord, Text: "der", Pos: 2}, {Kind: api.TName, Text: "x", Pos: 6}, {Kind: api.TSign, Text: "=", Pos: 7},
		{Kind: api.TNum, Text: "1.5", Pos: 8}, {Kind: api.TSign, Text: "->", Pos: 11}, {Kind: api.TCtor, Text: "A", Pos: 25}, {Pos: 28},
	}
	got := tokens(t, "\r\n"+"der x=1.5->"+"-- \xc3\xa9 one\r\n\t"+"A\n ")
	if len(got) != len(want) {
		t.Fatalf("%v", got)
	}
	for i := range want {
		if got[i] != want[i] {
			t.Errorf("token %d is %v, want %v", i, got[i], want[i])
		}
	}
}

func TestBytesThatBeginNothing(t *testing.T) {
	for text, at := range map[string]int{
		"1.x": 1, "1.": 1, "1..5": 1, "1. 5": 1, ".5": 0, "1.5.2": 3, "x.y": 1, ".": 0, "1.5.": 3, "1-.5": 2, "1x 1.5x 1_ 2Red 1.5.": 19,
		"a !b": 2, "!": 0, "!!=": 0, "! =": 0, "=!": 1, "x\n!--=": 2, "&": 0, "x & y": 2, "-- &\n&": 5, "\"x\"": 0, "a'": 1, "[": 0, "x]": 1,
		"#": 0, "@": 0, "$x": 0, "%": 0, "^": 0, "`": 0, "~": 0, "\\": 0, "?": 0, "\x00": 0, "x\x00": 1, "\v": 0, "\f": 0, "x\x7f": 1,
		"\xc3\xa9": 0, "a\xc3\xa9": 1, "\u00a0x": 0, "\xff": 0, "\xef\xbb\xbfnode": 0, "# &": 0, "x\n\n\ry .": 6,
	} {
		l, err, got := lex.Tokens([]byte(text))
		if err != api.ErrByte || got != at || len(l) != 0 {
			t.Errorf("Tokens(%q) = %v, %d, %d: want ErrByte at %d alone", text, l, err, got, at)
		}
	}
}

func TestEveryByte(t *testing.T) {
	r := newReader()
	for i := range 256 {
		c := string([]byte{byte(i)})
		for _, text := range []string{c, "x" + c, c + "x", "1" + c + "1", "-" + c, c + "=", "--" + c + "\n1", "A" + c + "A", "\r" + c + "\t", "1." + c + "5"} {
			r.check(t, text)
		}
	}
}

func TestLongSources(t *testing.T) {
	for _, filling := range []string{" ", "x", "A", "7", ";", "-", "\n", "if "} {
		text := strings.Repeat(filling, api.MaxSource)[:api.MaxSource]
		l := tokens(t, text)
		if end := l[len(l)-1]; end != (api.Token{Pos: api.MaxSource}) {
			t.Errorf("MaxSource bytes %q: the end is %v", filling, end)
		}
		if (filling == "x" || filling == "A" || filling == "7") && (len(l) != 2 || l[0].Text != text) {
			t.Errorf("MaxSource bytes %q are %d tokens", filling, len(l))
		}
	}
	for _, text := range []string{
		strings.Repeat(" ", api.MaxSource+1), strings.Repeat("x", api.MaxSource+1), strings.Repeat("x", 3*api.MaxSource),
		"#" + strings.Repeat("x", api.MaxSource), strings.Repeat("#", api.MaxSource+1), "--" + strings.Repeat("x", api.MaxSource-1),
	} {
		l, err, at := lex.Tokens([]byte(text))
		if err != api.ErrLong || at != api.MaxSource || len(l) != 0 {
			t.Errorf("%d bytes: %d tokens, %d, %d: want ErrLong at MaxSource alone", len(text), len(l), err, at)
		}
	}
	l, err, at := lex.Tokens([]byte(strings.Repeat(" ", api.MaxSource-1) + "#"))
	if err != api.ErrByte || at != api.MaxSource-1 || len(l) != 0 {
		t.Errorf("a strange byte at the end: %d tokens, %d, %d", len(l), err, at)
	}
}

// Every short text of bytes at which tokens part.
func TestShortTexts(t *testing.T) {
	r := newReader()
	all(4, strings.Split("a,Z,_,0,.,-,>,<,=,!,/, ,\n,\xe9", ","), func(text string) { r.check(t, text) })
	all(2, pieces(), func(text string) { r.check(t, text) })
}

func TestLongerTexts(t *testing.T) {
	source := rand.New(rand.NewSource(1))
	r, l := newReader(), pieces()
	clean := l[:len(words())+len(signs())+8]
	for range 5000 {
		r.check(t, random(source, l, 12))
		r.check(t, random(source, clean, 60))
	}
}
