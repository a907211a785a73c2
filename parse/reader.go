package parse

import (
	"slices"
	"strings"

	"foliot/api"
)

// What a reader panics with: which of these it is says what is wrong, its number says where.
type (
	unwanted int
	tooDeep  int
	tooLong  int
)

// reader goes through tokens from the front; the last one of them is the end, which it never goes past.
type reader struct {
	tokens []api.Token
	at     int
	nest   int // how many things are open
}

// next tells the next token, and leaves it.
func (r *reader) next() api.Token { return r.tokens[r.at] }

// is tells whether the next token is one of some words and signs. Texts are enough to know it by: no name is a word.
func (r *reader) is(texts ...string) bool {
	return slices.Contains(texts, r.next().Text)
}

// step takes the next token, whatever it is; it is asked ahead that it is not the end.
func (r *reader) step() api.Token {
	t := r.next()
	r.at++
	return t
}

// take takes the next token, if it is this word or sign.
func (r *reader) take(text string) bool {
	if !r.is(text) {
		return false
	}
	r.step()
	return true
}

// want takes the next token, which must be one of these words and signs.
func (r *reader) want(texts ...string) api.Token {
	if !r.is(texts...) {
		r.refuse()
	}
	return r.step()
}

// kind takes the next token, which must be of this kind.
func (r *reader) kind(kind int) api.Token {
	if r.next().Kind != kind {
		r.refuse()
	}
	return r.step()
}

func (r *reader) name() string { return r.kind(api.TName).Text }

func (r *reader) ctor() string { return r.kind(api.TCtor).Text }

// number takes the next token, which must be a number, and one of no more digits than are allowed.
func (r *reader) number() api.Token {
	t := r.kind(api.TNum)
	units, parts, _ := strings.Cut(t.Text, ".")
	if len(units) > api.MaxDigits || len(parts) > api.MaxDigits {
		panic(tooLong(t.Pos))
	}
	return t
}

// end asks that the next token is the end.
func (r *reader) end() {
	if r.next().Kind != api.TEnd {
		r.refuse()
	}
}

// refuse says that nothing goes on with the next token.
func (r *reader) refuse() { panic(unwanted(r.next().Pos)) }

// open opens one thing more, if so many may be open.
func (r *reader) open() {
	if r.nest == api.MaxNest {
		panic(tooDeep(r.next().Pos))
	}
	r.nest++
}

func (r *reader) close() { r.nest-- }

// row reads one thing at least, and one more behind each comma.
func row[T any](r *reader, one func() T) []T {
	out := []T{one()}
	for r.take(",") {
		out = append(out, one())
	}
	return out
}

// rowOrNone reads a row up to a closing bracket, which may stand there at once.
func rowOrNone[T any](r *reader, one func() T) []T {
	if r.is(")") {
		return nil
	}
	return row(r, one)
}

// ended reads things, each with a semicolon behind it, as long as another one begins.
func ended[T any](r *reader, begins func() bool, one func() T) []T {
	var out []T
	for begins() {
		out = append(out, one())
		r.want(";")
	}
	return out
}
