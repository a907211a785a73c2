package lex_test

import (
	"strings"
	"testing"

	"foliot/api"
	"foliot/lex"
)

// Promise 4.2.

func TestSpell(t *testing.T) {
	token := func(kind int, text string) api.Token { return api.Token{Kind: kind, Text: text, Pos: -3} }
	for _, c := range []struct {
		l    []api.Token
		want string
	}{
		{nil, ""}, {[]api.Token{}, ""}, {[]api.Token{{}}, ""}, {[]api.Token{token(api.TEnd, "x")}, ""}, {[]api.Token{token(api.TName, "x")}, "x"},
		{tokens(t, "x=-1.5;--end"), "x = - 1.5 ;"}, {tokens(t, "  a\n\nb--c\n  "), "a b"}, {tokens(t, "->="), "-> ="}, {tokens(t, " -- none\n"), ""},
		{[]api.Token{{}, token(api.TName, "a"), {}, {}, token(api.TWord, "if"), token(api.TEnd, "end"), token(api.TCtor, "B"), {}}, "a if B"},
		// Tokens that are none of their text are spelled as they stand.
		{[]api.Token{token(api.TName, ""), token(api.TNum, ""), token(api.TSign, "")}, "  "},
		{[]api.Token{token(99, "what\never"), token(-1, "\xff"), token(api.TName, " 1 ")}, "what\never \xff  1 "},
	} {
		if got := string(lex.Spell(c.l)); got != c.want {
			t.Errorf("Spell(%v) = %q, want %q", c.l, got, c.want)
		}
	}
}

func TestRight(t *testing.T) {
	right := map[string]int{
		"x": api.TName, "_": api.TName, "iff": api.TName, "x1_Y": api.TName, "If": api.TCtor, "A": api.TCtor, "Z_9": api.TCtor,
		"0": api.TNum, "007": api.TNum, "1.50": api.TNum, "if": api.TWord, "mod": api.TWord, "-": api.TSign, "->": api.TSign, "!=": api.TSign,
		strings.Repeat("x", api.MaxSource): api.TName, strings.Repeat("7", api.MaxSource): api.TNum,
	}
	for _, word := range words() {
		right[word] = api.TWord
	}
	for _, sign := range signs() {
		right[sign] = api.TSign
	}
	for text, kind := range right {
		for k := -1; k <= 7; k++ {
			for _, pos := range []int{0, 5, -1, api.MaxSource + 1} {
				if got := lex.Right(api.Token{Kind: k, Text: text, Pos: pos}); got != (k == kind) {
					t.Fatalf("Right of kind %d, text %.20q, place %d: %v", k, text, pos, got)
				}
			}
		}
	}
}

func TestWrongTokens(t *testing.T) {
	for _, text := range []string{
		"", " ", "\n", "--", "-- x", "--x\n", "x ", " x", "x\n", "\tx", "x--", "x--y", "--\nx", "x y", "if x", "xX y", "x.", "1.", "1.5.", "1.x", ".5", "1x", "1.5x", "-1", "- 1",
		"1 ", "1/2", "->=", "- >", "=>", "===", "!", "&", "==\n", ",;", "A B", "A ", " A", "A.", "\x00", "x\x00", "\xc3\xa9", "x\xc3\xa9",
		strings.Repeat("x", api.MaxSource+1), strings.Repeat("7", api.MaxSource+1), strings.Repeat("A", api.MaxSource+1), " " + strings.Repeat("x", api.MaxSource),
	} {
		for kind := -1; kind <= 7; kind++ {
			if lex.Right(api.Token{Kind: kind, Text: text}) {
				t.Errorf("Right of kind %d, text %.20q", kind, text)
			}
		}
	}
}

// A token is right just if it is what its text is read as.
func TestRightOfShortTexts(t *testing.T) {
	r := newReader()
	all(3, strings.Split("a,Z,_,0,.,-,>,<,=,!,/, ,\n,if,\xe9", ","), func(text string) {
		l, err, _ := r.read(text)
		for kind := range 7 {
			want := err == api.OK && len(l) == 2 && l[0].Text == text && l[0].Kind == kind
			if got := lex.Right(api.Token{Kind: kind, Text: text, Pos: 1}); got != want {
				t.Fatalf("Right of kind %d, text %q: %v", kind, text, got)
			}
		}
	})
}
