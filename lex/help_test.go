package lex_test

import (
	"math/rand"
	"regexp"
	"slices"
	"strings"
	"testing"

	"foliot/api"
	"foliot/lex"
)

// words are the document's.
func words() []string {
	return strings.Split("type, node, hybrid, returns, var, let, tel, if, then, else, pre, fby, last, der, init, reset, when, every, automaton, state, until, continue, present, end, true, false, and, or, not, up, bool, int, rat, floor, div, mod", ", ")
}

// signs are the document's.
func signs() []string {
	return strings.Fields("( ) { } , ; : = -> | + - * / < <= > >= == !=")
}

// forms are what may stand at a text's beginning, by the kinds of tokens; of TEnd: blanks.
func forms() map[int]*regexp.Regexp {
	var quoted []string
	for _, sign := range signs() {
		quoted = append(quoted, regexp.QuoteMeta(sign))
	}
	out := map[int]*regexp.Regexp{}
	for kind, form := range map[int]string{
		api.TEnd: `[ \t\n\r]+|--[^\n]*`, api.TName: `[a-z_][a-zA-Z0-9_]*`, api.TCtor: `[A-Z][a-zA-Z0-9_]*`,
		api.TNum: `[0-9]+(\.[0-9]+)?`, api.TSign: strings.Join(quoted, "|"),
	} {
		out[kind] = regexp.MustCompile(`\A(` + form + `)`)
		out[kind].Longest()
	}
	return out
}

// reader reads texts as the document says it, by the library's expressions: what the tests hold the package against.
type reader struct {
	forms map[int]*regexp.Regexp
	words []string
}

func newReader() reader { return reader{forms(), words()} }

// next tells the kind of what a text begins with, and it.
func (r reader) next(text string) (int, string) {
	if blanks := r.forms[api.TEnd].FindString(text); blanks != "" {
		return api.TEnd, blanks
	}
	kind, longest := 0, ""
	for k, form := range r.forms {
		if s := form.FindString(text); len(s) > len(longest) {
			kind, longest = k, s
		}
	}
	if kind == api.TName && slices.Contains(r.words, longest) {
		kind = api.TWord
	}
	return kind, longest
}

// read tells a text's tokens, or the place of a byte that begins none.
func (r reader) read(text string) ([]api.Token, api.Errno, int) {
	var out []api.Token
	at := 0
	for at < len(text) {
		kind, s := r.next(text[at:])
		if s == "" {
			return nil, api.ErrByte, at
		}
		if kind != api.TEnd {
			out = append(out, api.Token{Kind: kind, Text: s, Pos: at})
		}
		at += len(s)
	}
	return append(out, api.Token{Pos: at}), api.OK, 0
}

// check holds what the package says of a text against the reader.
func (r reader) check(t *testing.T, text string) {
	t.Helper()
	want, wantErr, wantAt := r.read(text)
	got, err, at := lex.Tokens([]byte(text))
	if err != wantErr || at != wantAt || !slices.Equal(got, want) {
		t.Fatalf("Tokens(%q) = %v, %d, %d: want %v, %d, %d", text, got, err, at, want, wantErr, wantAt)
	}
}

// tokens tells the tokens of a text that must have some.
func tokens(t *testing.T, text string) []api.Token {
	t.Helper()
	l, err, at := lex.Tokens([]byte(text))
	if err != api.OK || at != 0 {
		t.Fatalf("Tokens(%q): %d, %d", text, err, at)
	}
	return l
}

// said tells tokens as a text: each one's kind and text.
func said(l []api.Token) string {
	names := map[int]string{api.TEnd: "end", api.TName: "name", api.TCtor: "ctor", api.TNum: "num", api.TWord: "word", api.TSign: "sign"}
	var out []string
	for _, token := range l {
		out = append(out, strings.TrimSpace(names[token.Kind]+" "+token.Text))
	}
	return strings.Join(out, "; ")
}

// all calls f with every text of no more than n pieces.
func all(n int, pieces []string, f func(text string)) {
	var grow func(text string, left int)
	grow = func(text string, left int) {
		f(text)
		if left == 0 {
			return
		}
		for _, piece := range pieces {
			grow(text+piece, left-1)
		}
	}
	grow("", n)
}

// pieces are what texts of tokens are made of: words, names, signs and blanks that touch one another, and some bytes that begin nothing.
func pieces() []string {
	out := append(words(), signs()...)
	return append(out, "x", "_", "iff", "Red", "END", "0", "007", "1.5", ".", "..", "!", "--", "-- a remark\n", "--\xff\x00", " ", "\n", "\r\n", "\t", "#", "\x00", "\xc3\xa9", "\"")
}

// random tells a text of pieces.
func random(r *rand.Rand, l []string, n int) string {
	var out strings.Builder
	for range r.Intn(n) {
		out.WriteString(l[r.Intn(len(l))])
	}
	return out.String()
}
