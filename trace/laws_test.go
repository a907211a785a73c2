package trace_test

import (
	"math/big"
	"math/rand"
	"regexp"
	"slices"
	"strconv"
	"strings"
	"testing"

	"foliot/api"
	"foliot/flat"
	"foliot/meaning"
	"foliot/ratio"
	"foliot/sample"
	"foliot/trace"
)

// The chapter's words, said a second time: lines as regular expressions, numbers of the library's.

// reader is what lines look like.
type reader struct{ entry, done, stop, number, ctor *regexp.Regexp }

func newReader() reader {
	const number, index = `(-?[0-9]+(?:/[0-9]+)?)`, `(0|[1-9][0-9]{0,5})`
	line := func(s string) *regexp.Regexp { return regexp.MustCompile(`\A` + s + `\z`) }
	return reader{line(number + " " + index + ":((?: [^ ]+)*)\n"), line("done " + number + "\n"), line("(div|cascade|big) " + number + " " + index + "\n"), line(number), line("[A-Z][A-Za-z0-9_]*")}
}

// short tells whether a natural number has MaxDigits digits at most.
func short(n *big.Int) bool { return len(new(big.Int).Abs(n).String()) <= api.MaxDigits }

// isNumber tells whether a text is one that the library would tell so, too.
func (r reader) isNumber(s string) bool {
	if !r.number.MatchString(s) {
		return false
	}
	num, den, quotient := strings.Cut(s, "/")
	a, _ := new(big.Rat).SetString(num)
	if quotient {
		below, _ := new(big.Rat).SetString(den)
		if below.Sign() == 0 {
			return false
		}
		a.Quo(a, below)
	}
	return a.RatString() == s && short(a.Num()) && short(a.Denom())
}

// value tells a value as told does.
func (r reader) value(s string) (string, bool) {
	switch {
	case s == "?":
		return "nil", true
	case s == "true" || s == "false":
		return "bool:" + oneIf(s == "true", "1", "0"), true
	case r.ctor.MatchString(s) && len(s) <= api.MaxSource:
		return "ctor:" + s, true
	}
	return "num:" + s, r.isNumber(s)
}

// decode is what Decode has to answer, as decoded tells it.
func (r reader) decode(text string) string {
	lines := strings.SplitAfter(text, "\n")
	last := len(lines) - 2
	if last < 0 || lines[last+1] != "" {
		return "ErrForm"
	}
	var out []string
	for _, line := range lines[:last] {
		l := r.entry.FindStringSubmatch(line)
		if l == nil || !r.isNumber(l[1]) {
			return "ErrForm"
		}
		words := l[1:3:3]
		for _, s := range strings.Split(l[3], " ")[1:] {
			v, ok := r.value(s)
			if !ok {
				return "ErrForm"
			}
			words = append(words, v)
		}
		out = append(out, strings.Join(words, " "))
	}
	if l := r.done.FindStringSubmatch(lines[last]); l != nil && r.isNumber(l[1]) {
		return strings.Join(append(out, "end 1 "+l[1]+" 0"), "; ")
	}
	if l := r.stop.FindStringSubmatch(lines[last]); l != nil && r.isNumber(l[2]) {
		end := map[string]string{"div": "2", "cascade": "3", "big": "4"}[l[1]]
		return strings.Join(append(out, "end "+end+" "+l[2]+" "+l[3]), "; ")
	}
	return "ErrForm"
}

// encode is what Encode has to answer, as encoded tells it.
func (r reader) encode(t api.Trace) string {
	right := 0 <= t.Index && t.Index <= 999999
	number := func(a api.Rat) string {
		b := bigOf(a)
		right = right && short(b.Num()) && short(b.Denom())
		return b.RatString()
	}
	out := ""
	for _, e := range t.Entries {
		right = right && 0 <= e.Index && e.Index <= 999999
		out += number(e.At) + " " + strconv.Itoa(e.Index) + ":"
		for _, v := range e.Outs {
			text := "?"
			switch v.Kind {
			case 0:
			case 1:
				n := bigOf(v.Num).RatString()
				text = oneIf(n == "0", "false", "true")
				right = right && (n == "0" || n == "1")
			case 2:
				text = number(v.Num)
			case 3:
				text = v.Name
				right = right && r.ctor.MatchString(v.Name)
			default:
				right = false
			}
			out += " " + text
		}
		out += "\n"
	}
	at := " " + number(t.At)
	switch t.End {
	case 1:
		out += "done" + at
		right = right && t.Index == 0
	case 2, 3, 4:
		out += []string{"div", "cascade", "big"}[t.End-2] + at + " " + strconv.Itoa(t.Index)
	default:
		right = false
	}
	return oneIf(right, out+"\n", "ErrArg")
}

// anyText is a trace's text in which some things may be otherwise.
func anyText(r *rand.Rand) string {
	b, _ := trace.Encode(sample.Trace(r.Intn, r.Intn(4)))
	text := string(b)
	pieces := []string{"", " ", "\n", "0", "7", "-", "/", "/2", ".", "/0", ".5", "?", "true", "false", "Red", "a", "A", "_", ":", " 1", "1 0:\n", "1 0: 2 ?\n", "done 1\n", "div 1 2\n", "done", "big", "é", "\xff", "\t", "\r\n", "000000", nines(299), nines(301), " X"}
	piece := func() string { return pieces[r.Intn(len(pieces))] }
	for range r.Intn(4) {
		i := r.Intn(len(text) + 1)
		j := min(len(text), i+r.Intn(3))
		switch r.Intn(8) {
		case 0:
			text = text[:i] + piece() + text[i:]
		case 1:
			text = text[:i] + piece() + text[j:]
		case 2:
			text = text[:i] + text[j:]
		case 3:
			text = text[:i]
		case 4:
			lines := strings.SplitAfter(text, "\n")
			k := r.Intn(len(lines))
			text = strings.Join(slices.Delete(lines, k, k+1), "")
		default:
			words := strings.Split(text, " ")
			k := r.Intn(len(words))
			old, rest, more := strings.Cut(words[k], "\n")
			words[k] = oneIf(r.Intn(2) == 0, old, "") + piece() + oneIf(more, "\n", "") + rest
			text = strings.Join(words, " ")
		}
	}
	return text
}

func TestDecodeWords(t *testing.T) {
	// 20.2, 20.3: any text is as the words say; what is decoded is encoded as the same text: no other text is that trace's.
	n, read := tally{}, newReader()
	for seed := range int64(30000) {
		text := anyText(dice(seed))
		want := read.decode(text)
		is(t, text, decoded(text), want)
		n.note("none", want == "ErrForm")
		if x, err := trace.Decode([]byte(text)); err == api.OK {
			is(t, text, encoded(x), text)
			n.note("entries", len(x.Entries) > 1)
			n.note("no entries", len(x.Entries) == 0)
			n.note("end "+strconv.Itoa(x.End), true)
			n.note("values", len(x.Entries) > 0 && len(x.Entries[0].Outs) > 1)
		}
		if t.Failed() {
			t.FailNow()
		}
	}
	n.least(t, 500, "none", "entries", "no entries", "values", "end 1", "end 2", "end 3", "end 4")
}

func TestDecodeBytes(t *testing.T) {
	// 20.2: any bytes, of few kinds.
	n, read := tally{}, newReader()
	const few = "done div A?1 0:\n\n-/2 "
	for seed := range int64(30000) {
		r := dice(seed)
		var b []byte
		for range r.Intn(9) {
			b = append(b, few[r.Intn(len(few))])
		}
		for _, text := range []string{string(b), "1 0:" + string(b) + "\ndone 1\n", "1 0: 1\n" + string(b) + "\n", string(b) + "1\n", "done " + string(b) + "\n", "big " + string(b) + "\n"} {
			want := read.decode(text)
			is(t, text, decoded(text), want)
			n.note(oneIf(want == "ErrForm", "none", "some"), true)
		}
	}
	n.least(t, 1000, "none", "some")
}

// anyNumber is one in any form; some have too many digits.
func anyNumber(r *rand.Rand) api.Rat {
	a := rat(strconv.Itoa(r.Intn(12)-2) + "/" + strconv.Itoa(1+r.Intn(3)))
	switch r.Intn(12) {
	case 0:
		a = ratio.Mul(a, rat(nines(298+r.Intn(4))))
	case 1:
		a = ratio.Mul(a, rat("1/"+nines(298+r.Intn(4))))
	}
	l := forms(a)
	return l[r.Intn(len(l))]
}

// anyTrace is one that is right or nearly so, or any.
func anyTrace(r *rand.Rand) api.Trace {
	x := sample.Trace(r.Intn, r.Intn(4))
	numbers := []int{-1 << 63, -1, 0, 1, 2, 3, 4, 5, 999999, 1000000, 1<<63 - 1}
	names := []string{"Red", "", "red", "A b", "É", "X9_", "A\n", "true", "?"}
	for range r.Intn(3) {
		if len(x.Entries) == 0 || r.Intn(4) == 0 {
			switch r.Intn(3) {
			case 0:
				x.At = anyNumber(r)
			case 1:
				x.Index = numbers[r.Intn(len(numbers))]
			case 2:
				x.End = numbers[r.Intn(len(numbers))]
			}
			continue
		}
		e := &x.Entries[r.Intn(len(x.Entries))]
		switch i := r.Intn(4); {
		case i == 0:
			e.At = anyNumber(r)
		case i == 1:
			e.Index = numbers[r.Intn(len(numbers))]
		default:
			kind := []int{0, 1, 2, 2, 2, 3, 3, 3, 4, -1}[r.Intn(10)]
			e.Outs = append(e.Outs, api.Value{Kind: kind, Num: anyNumber(r), Name: names[r.Intn(len(names))]})
		}
	}
	return x
}

// same tells whether two traces say the same, value by value.
func same(a, b api.Trace) bool {
	number := func(a, b api.Rat) bool { return bigOf(a).Cmp(bigOf(b)) == 0 }
	value := func(a, b api.Value) bool {
		switch a.Kind {
		case api.VBool, api.VNum:
			return b.Kind == a.Kind && number(a.Num, b.Num)
		case api.VCtor:
			return b.Kind == a.Kind && b.Name == a.Name
		}
		return b.Kind == a.Kind
	}
	entry := func(a, b api.Entry) bool {
		return number(a.At, b.At) && a.Index == b.Index && slices.EqualFunc(a.Outs, b.Outs, value)
	}
	return a.End == b.End && number(a.At, b.At) && a.Index == b.Index && slices.EqualFunc(a.Entries, b.Entries, entry)
}

func TestEncodeWords(t *testing.T) {
	// 20.1, 20.3: any trace is as the words say; what is encoded is decoded as the same trace.
	n, read := tally{}, newReader()
	for seed := range int64(40000) {
		x := anyTrace(dice(seed))
		text := encoded(x)
		is(t, "encode", text, read.encode(x))
		n.note("none", text == "ErrArg")
		if text != "ErrArg" {
			again, err := trace.Decode([]byte(text))
			if err != api.OK || !same(x, again) {
				t.Fatalf("%q: %v", text, again)
			}
			n.note("end "+strconv.Itoa(x.End), true)
			n.note("entries", len(x.Entries) > 1)
		}
		if t.Failed() {
			t.FailNow()
		}
	}
	n.least(t, 1000, "none", "entries", "end 1", "end 2", "end 3", "end 4")
}

func TestTwoTraces(t *testing.T) {
	// 20.3: two traces that are not the same have not one text.
	n := tally{}
	texts := map[string]api.Trace{}
	for seed := range int64(30000) {
		x := anyTrace(dice(seed))
		text := encoded(x)
		if text == "ErrArg" {
			continue
		}
		y, seen := texts[text]
		if seen && !same(x, y) {
			t.Fatal(text)
		}
		n.note("seen ahead", seen)
		texts[text] = x
	}
	n.note("texts", len(texts) > 10000)
	n.least(t, 1, "texts", "seen ahead")
}

func TestRuns(t *testing.T) {
	// 20.1, P5: what a run tells is right, and is decoded as it was.
	n := tally{}
	for seed := range int64(1500) {
		r := dice(seed)
		f, err, _ := flat.Of(sample.Causal(r.Intn, 20+r.Intn(30)))
		if err != api.OK {
			continue
		}
		x, ended := meaning.Flat(f, sample.Script(r.Intn, f.Ins), 200)
		if !ended || x.End == 0 {
			continue
		}
		text := encoded(x)
		again, _ := trace.Decode([]byte(text))
		if text == "ErrArg" || !same(x, again) {
			t.Fatal(text)
		}
		is(t, text, encoded(again), text)
		n.note("end "+strconv.Itoa(x.End), true)
		n.note("entries", len(x.Entries) > 1)
	}
	n.least(t, 5, "end 1", "end 2", "end 3", "end 4", "entries")
}

// spare is a number with limbs behind its ends that are not its own.
func spare(a api.Rat) api.Rat {
	more := func(l []uint32) []uint32 { return append(slices.Clone(l), 0xdead, 0xbeef)[:len(l)] }
	return api.Rat{Num: api.Int{Neg: a.Num.Neg, Mag: more(a.Num.Mag)}, Den: more(a.Den)}
}

// numbers are all of a trace, those behind its lists' ends too.
func numbers(x api.Trace) []api.Rat {
	out := []api.Rat{x.At}
	for _, e := range x.Entries[:cap(x.Entries)] {
		out = append(out, e.At)
		for _, v := range e.Outs[:cap(e.Outs)] {
			out = append(out, v.Num)
		}
	}
	return out
}

// behind tells all that a trace holds, what is behind lists' ends too.
func behind(x api.Trace) string {
	var out []string
	for _, a := range numbers(x) {
		for _, l := range [][]uint32{a.Num.Mag[:cap(a.Num.Mag)], a.Den[:cap(a.Den)]} {
			for _, limb := range l {
				out = append(out, strconv.Itoa(int(limb)))
			}
		}
		out = append(out, strconv.FormatBool(a.Num.Neg))
	}
	for _, e := range x.Entries[:cap(x.Entries)] {
		out = append(out, strconv.Itoa(e.Index))
		for _, v := range e.Outs[:cap(e.Outs)] {
			out = append(out, strconv.Itoa(v.Kind), v.Name)
		}
	}
	return strings.Join(out, " ")
}

// spared is a trace with things behind all its lists' ends that are not its own.
func spared(x api.Trace) api.Trace {
	out := api.Trace{End: x.End, At: spare(x.At), Index: x.Index}
	for _, e := range x.Entries {
		var outs []api.Value
		for _, v := range e.Outs {
			outs = append(outs, api.Value{Kind: v.Kind, Num: spare(v.Num), Name: v.Name})
		}
		outs = append(outs, ctor("Behind"))[:len(outs)]
		out.Entries = append(out.Entries, api.Entry{At: spare(e.At), Index: e.Index, Outs: outs})
	}
	out.Entries = append(out.Entries, api.Entry{At: rat("3"), Index: 77})[:len(out.Entries)]
	return out
}

func TestMemoryOfTraces(t *testing.T) {
	// R4: what is handed in is neither changed nor kept, what lies behind its ends too; a text is memory of its own.
	for seed := range int64(3000) {
		x := spared(anyTrace(dice(seed)))
		ahead := behind(x)
		trace.Right(x)
		first, err := trace.Encode(x)
		second, _ := trace.Encode(x)
		for i := range first[:cap(first)] {
			first[:cap(first)][i] = 'x'
		}
		if third, _ := trace.Encode(x); err == api.OK && (!slices.Equal(second, third) || strings.Trim(string(first), "x") != "") {
			t.Fatal("texts", x)
		}
		is(t, "what was handed in", behind(x), ahead)
	}
}

// spoil writes over a trace's lists and all behind them.
func spoil(x api.Trace) {
	for _, a := range numbers(x) {
		spoilNumber(a)
	}
	for _, e := range x.Entries[:cap(x.Entries)] {
		clear(e.Outs[:cap(e.Outs)])
	}
	clear(x.Entries[:cap(x.Entries)])
}

func spoilNumber(a api.Rat) {
	for _, l := range [][]uint32{a.Num.Mag[:cap(a.Num.Mag)], a.Den[:cap(a.Den)]} {
		for i := range l {
			l[i] ^= 0x5a5a5a5a
		}
	}
}

func TestMemoryOfTexts(t *testing.T) {
	// R4: bytes are neither changed nor kept; two answers share nothing, nor do two lists of one.
	n := tally{}
	for seed := range int64(3000) {
		text := anyText(dice(seed))
		b := append([]byte(text), "behind"...)[:len(text)]
		one, err := trace.Decode(b)
		want := told(one)
		two, _ := trace.Decode(b)
		spoil(two)
		is(t, "what was handed in", string(b[:len(text)+6]), text+"behind")
		for i := range b {
			b[i] = '?'
		}
		is(t, text, told(one), want)
		if err != api.OK {
			continue
		}
		// A number that is written over leaves all others as they are; so does what is put behind a list of values.
		l := numbers(one)
		var texts []string
		for _, a := range l {
			texts = append(texts, numberText(a))
		}
		for i := range l {
			spoilNumber(l[i])
			for k := range l {
				n.note("numbers", k != i)
				if k != i && numberText(l[k]) != texts[k] {
					t.Fatal("shared", text)
				}
			}
			spoilNumber(l[i])
		}
		for _, e := range one.Entries {
			_ = append(e.Outs, ctor("Behind"), ctor("Behind"))
		}
		is(t, text, told(one), want)
	}
	n.least(t, 1000, "numbers")
}
