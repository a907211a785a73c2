package lex

import (
	"strings"

	"foliot/api"
)

// Kinds of bytes, by what they begin. Those from digit on go on in a name.
const (
	other = iota // a sign, or nothing
	blank
	dash // a sign, or a remark
	digit
	small // a name, or a word
	large // a constructor
)

// words are what would be names else.
var words = [...]string{
	"type", "node", "hybrid", "returns", "var", "let", "tel", "if", "then", "else", "pre", "fby",
	"last", "der", "init", "reset", "when", "every", "automaton", "state", "until", "continue", "present", "end",
	"true", "false", "and", "or", "not", "up", "bool", "int", "rat", "floor", "div", "mod",
}

// signs are all signs: the long ones first, since a token is as long as it can be.
var signs = [...]string{
	"->", "<=", ">=", "==", "!=",
	"(", ")", "{", "}", ",", ";", ":", "=", "|", "+", "-", "*", "/", "<", ">",
}

// kindOf tells a byte's kind.
func kindOf(c byte) int {
	switch {
	case c == ' ', c == '\t', c == '\n', c == '\r':
		return blank
	case c == '-':
		return dash
	case '0' <= c && c <= '9':
		return digit
	case 'a' <= c && c <= 'z', c == '_':
		return small
	case 'A' <= c && c <= 'Z':
		return large
	}
	return other
}

// first tells the kind of what a text begins with, and how many bytes it has: 0, if nothing begins so. What is blank is told as TEnd: neither is a token to be kept.
func first(text string) (int, int) {
	switch kindOf(text[0]) {
	case blank:
		return api.TEnd, 1
	case digit:
		return api.TNum, numberSize(text)
	case small:
		size := span(text, digit, large)
		return nameKind(text[:size]), size
	case large:
		return api.TCtor, span(text, digit, large)
	case dash:
		if size := remarkSize(text); size > 0 {
			return api.TEnd, size
		}
		fallthrough
	default:
		return api.TSign, signSize(text)
	}
}

// span tells how many bytes a text begins with that are of the kinds from low to high.
func span(text string, low, high int) int {
	size := 0
	for size < len(text) && low <= kindOf(text[size]) && kindOf(text[size]) <= high {
		size++
	}
	return size
}

// numberSize tells how long a number is; a point that no digit follows is not its own.
func numberSize(text string) int {
	whole := span(text, digit, digit)
	rest, point := strings.CutPrefix(text[whole:], ".")
	decimals := span(rest, digit, digit)
	if !point || decimals == 0 {
		return whole
	}
	return whole + 1 + decimals
}

// nameKind tells words from names.
func nameKind(name string) int {
	for i := range words {
		if words[i] == name {
			return api.TWord
		}
	}
	return api.TName
}

// remarkSize tells how long a remark is, without the byte 10 behind it; 0, if none begins.
func remarkSize(text string) int {
	if !strings.HasPrefix(text, "--") {
		return 0
	}
	line, _, _ := strings.Cut(text, "\n")
	return len(line)
}

// signSize tells how long the longest sign is that a text begins with; 0, if none does.
func signSize(text string) int {
	for i := range signs {
		if strings.HasPrefix(text, signs[i]) {
			return len(signs[i])
		}
	}
	return 0
}
