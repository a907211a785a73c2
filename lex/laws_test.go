package lex_test

import (
	"bytes"
	"math/rand"
	"slices"
	"strings"
	"testing"

	"foliot/api"
	"foliot/lex"
)

// Promise 4.3.

// spelled holds what right tokens are read as, once they are spelled, against them; their places aside.
func spelled(t *testing.T, l []api.Token) {
	t.Helper()
	got, err, _ := lex.Tokens(lex.Spell(l))
	if err != api.OK || len(got) != len(l)+1 || got[len(l)].Kind != api.TEnd {
		t.Fatalf("%v, spelled, is %v, %d", l, got, err)
	}
	for i := range l {
		if got[i].Kind != l[i].Kind || got[i].Text != l[i].Text {
			t.Fatalf("%v, spelled, is %v", l, got)
		}
	}
}

func TestRightTokensSpelledAreReadAgain(t *testing.T) {
	var l []api.Token
	for _, piece := range pieces() {
		for kind := range 7 {
			if token := (api.Token{Kind: kind, Text: piece, Pos: 9}); lex.Right(token) {
				l = append(l, token)
			}
		}
	}
	if len(l) < len(words())+len(signs())+8 {
		t.Fatalf("only %d right tokens", len(l))
	}
	spelled(t, nil)
	for _, a := range l {
		spelled(t, []api.Token{a})
		for _, b := range l {
			spelled(t, []api.Token{a, b})
		}
	}
	source := rand.New(rand.NewSource(2))
	for range 3000 {
		var row []api.Token
		for range source.Intn(40) {
			row = append(row, l[source.Intn(len(l))])
		}
		spelled(t, row)
	}
}

// What Tokens tells is right, and what lies between is blank: a space in its stead changes nothing but places.
func TestBetweenTokensAreBlanksAlone(t *testing.T) {
	source := rand.New(rand.NewSource(3))
	r, l := newReader(), pieces()
	for range 5000 {
		text := random(source, l, 10)
		row, err, _ := lex.Tokens([]byte(text))
		if err != api.OK {
			continue
		}
		at := 0
		for _, token := range row {
			if token.Kind != api.TEnd && !lex.Right(token) {
				t.Fatalf("%q: %v is not right", text, token)
			}
			if !strings.HasPrefix(text[token.Pos:], token.Text) {
				t.Fatalf("%q: %v does not stand at its place", text, token)
			}
			if between, err, _ := r.read(text[at:token.Pos]); err != api.OK || len(between) != 1 {
				t.Fatalf("%q: %q lies ahead of %v", text, text[at:token.Pos], token)
			}
			at = token.Pos + len(token.Text)
		}
		if at != len(text) {
			t.Fatalf("%q: the tokens end at %d", text, at)
		}
		spelled(t, row[:len(row)-1])
	}
}

// What the rules say of memory (R4), and of answers that hang on arguments alone (R5).

func TestMemory(t *testing.T) {
	room := []byte("node f -- x\n = 1.5#&")
	text := room[:len(room)-2]
	before := slices.Clone(room)
	first, _, _ := lex.Tokens(text)
	second, _, _ := lex.Tokens(text)
	kept := slices.Clone(first)
	if !bytes.Equal(room, before) {
		t.Fatalf("what was handed in is now %q", room)
	}
	clear(room)
	if !slices.Equal(first, kept) {
		t.Fatalf("the tokens share memory with the source: %v", first)
	}
	clear(second[:cap(second)])
	if !slices.Equal(first, kept) {
		t.Fatalf("two answers share memory: %v", first)
	}
	spelling := lex.Spell(first)
	clear(spelling[:cap(spelling)])
	if !slices.Equal(first, kept) || string(lex.Spell(first)) != "node f = 1.5" {
		t.Fatalf("a spelling shares memory with its tokens: %v", first)
	}
}

func TestSpellLeavesWhatLiesBehind(t *testing.T) {
	row := tokens(t, "a b c d")
	kept := slices.Clone(row)
	lex.Spell(row[:2])
	if !slices.Equal(row, kept) {
		t.Fatalf("the row is now %v", row)
	}
}

func TestNothing(t *testing.T) {
	for _, b := range [][]byte{nil, {}} {
		l, err, at := lex.Tokens(b)
		if err != api.OK || at != 0 || !slices.Equal(l, []api.Token{{}}) {
			t.Errorf("no bytes: %v, %d, %d", l, err, at)
		}
	}
	if len(lex.Spell(nil)) != 0 || lex.Right(api.Token{}) {
		t.Error("nothing is spelled as something, or right")
	}
}
