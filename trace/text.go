package trace

import (
	"bytes"
	"strconv"
	"strings"

	"foliot/api"
	"foliot/ratio"
)

// Values that are no numbers, as text.
const (
	nothing = "?"
	yes     = "true"
	no      = "false"
)

// valueText tells a value that a trace may have.
func valueText(v api.Value) string {
	switch v.Kind {
	case api.VBool:
		if ratio.Sign(v.Num) == 0 {
			return no
		}
		return yes
	case api.VNum:
		return ratio.Print(v.Num)
	case api.VCtor:
		return v.Name
	}
	return nothing
}

// Encode tells a trace's text.
func Encode(t api.Trace) ([]byte, api.Errno) {
	if !Right(t) {
		return nil, api.ErrArg
	}
	var out bytes.Buffer
	put := func(words ...string) {
		out.WriteString(strings.Join(words, " "))
		out.WriteByte('\n')
	}
	for _, e := range t.Entries {
		words := []string{ratio.Print(e.At), strconv.Itoa(e.Index) + ":"}
		for _, v := range e.Outs {
			words = append(words, valueText(v))
		}
		put(words...)
	}
	if t.End == api.EndDone {
		put(ends[t.End], ratio.Print(t.At))
	} else {
		put(ends[t.End], ratio.Print(t.At), strconv.Itoa(t.Index))
	}
	return out.Bytes(), api.OK
}

// number reads a number, such as it is told: layer 3 reads others, too.
func number(s string) (api.Rat, bool) {
	a, err := ratio.Parse(s)
	return a, err == api.OK && ratio.Print(a) == s
}

// index reads an index, such as it is told.
func index(s string) (int, bool) {
	n, err := strconv.Atoi(s)
	return n, err == nil && isIndex(n) && strconv.Itoa(n) == s
}

// value reads a value.
func value(s string) (api.Value, bool) {
	switch s {
	case nothing:
		return api.Value{}, true
	case yes:
		return api.Value{Kind: api.VBool, Num: ratio.Of(1)}, true
	case no:
		return api.Value{Kind: api.VBool, Num: ratio.Of(0)}, true
	}
	if isCtor(s) {
		return api.Value{Kind: api.VCtor, Name: s}, true
	}
	a, ok := number(s)
	return api.Value{Kind: api.VNum, Num: a}, ok
}

// entry reads the line of an entry.
func entry(line string) (api.Entry, bool) {
	words := strings.Split(line, " ")
	if len(words) < 2 {
		return api.Entry{}, false
	}
	count, marked := strings.CutSuffix(words[1], ":")
	at, timed := number(words[0])
	n, counted := index(count)
	e, ok := api.Entry{At: at, Index: n}, marked && timed && counted
	for _, word := range words[2:] {
		v, told := value(word)
		e.Outs = append(e.Outs, v)
		ok = ok && told
	}
	return e, ok
}

// endOf tells which end a word says.
func endOf(s string) (int, bool) {
	for end, word := range ends {
		if isEnd(end) && word == s {
			return end, true
		}
	}
	return 0, false
}

// ending reads the line that tells how and where a run ended.
func ending(line string) (api.Trace, bool) {
	words := strings.Split(line, " ")
	end, ended := endOf(words[0])
	if end == api.EndDone {
		words = append(words, "0")
	}
	if !ended || len(words) != 3 {
		return api.Trace{}, false
	}
	at, timed := number(words[1])
	n, counted := index(words[2])
	return api.Trace{End: end, At: at, Index: n}, timed && counted
}

// Decode tells the trace of a text.
func Decode(b []byte) (api.Trace, api.Errno) {
	text, closed := strings.CutSuffix(string(b), "\n")
	lines := strings.Split(text, "\n")
	last := len(lines) - 1
	t, ended := ending(lines[last])
	if !closed || !ended {
		return api.Trace{}, api.ErrForm
	}
	for _, line := range lines[:last] {
		e, ok := entry(line)
		if !ok {
			return api.Trace{}, api.ErrForm
		}
		t.Entries = append(t.Entries, e)
	}
	return t, api.OK
}
