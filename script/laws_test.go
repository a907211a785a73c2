package script_test

import (
	"math/big"
	"math/rand"
	"reflect"
	"regexp"
	"slices"
	"strconv"
	"strings"
	"testing"

	"foliot/api"
	"foliot/flat"
	"foliot/meaning"
	"foliot/ratio"
	"foliot/sample"
	"foliot/script"
)

// The chapter's words, said a second time: lines as regular expressions, numbers of the library's.

// reader is what lines look like.
type reader struct {
	head   []*regexp.Regexp
	change *regexp.Regexp
}

func newReader() reader {
	const number, count, name = `(-?[0-9]+(?:[/.][0-9]+)?)`, `([0-9]{1,6})`, `([a-z_][A-Za-z0-9_]*)`
	line := func(s string) *regexp.Regexp { return regexp.MustCompile(`\A` + s + `\n\z`) }
	head := []*regexp.Regexp{line("horizon " + number), line("cascade " + count), line("bits " + count)}
	return reader{head, line("at " + number + " " + name + " = " + number)}
}

// short tells whether a natural number has MaxDigits digits at most.
func short(n *big.Int) bool { return len(new(big.Int).Abs(n).String()) <= api.MaxDigits }

// number is that of a text, or nil, if it is none or has too many digits.
func (r reader) number(s string) *big.Rat {
	for part := range strings.FieldsFuncSeq(strings.TrimPrefix(s, "-"), func(c rune) bool { return c == '/' || c == '.' }) {
		if len(part) > api.MaxDigits {
			return nil
		}
	}
	// The library would take a nought ahead of a quotient's part as the sign of another base.
	num, den, quotient := strings.Cut(s, "/")
	a, ok := new(big.Rat).SetString(num)
	if quotient {
		below, _ := new(big.Rat).SetString(den)
		if below.Sign() == 0 {
			return nil
		}
		a.Quo(a, below)
	}
	if !ok || !short(a.Num()) || !short(a.Denom()) {
		return nil
	}
	return a
}

// line reads a line: what it says of the script, or false.
func (r reader) line(n int, text string) (string, bool) {
	form := r.change
	if n < len(r.head) {
		form = r.head[n]
	}
	l := form.FindStringSubmatch(text)
	switch {
	case l == nil:
		return "", false
	case n == 0:
		a := r.number(l[1])
		return ratText(a), a != nil
	case n < len(r.head):
		return oneIf(strings.Trim(l[1], "0") == "", "0", strings.TrimLeft(l[1], "0")), true
	}
	at, value := r.number(l[1]), r.number(l[3])
	return ratText(at) + " " + l[2] + " " + ratText(value), at != nil && value != nil
}

func ratText(a *big.Rat) string {
	if a == nil {
		return "none"
	}
	return a.RatString()
}

// parse is what Parse has to answer, as parsed tells it.
func (r reader) parse(text string) string {
	if len(text) > api.MaxSource {
		return "ErrLong 0"
	}
	var out []string
	rest := text
	for rest != "" || len(out) < len(r.head) {
		end := strings.IndexByte(rest, '\n') + 1
		told, ok := r.line(len(out), rest[:end])
		if !ok {
			return "ErrScript " + strconv.Itoa(len(out)+1)
		}
		out = append(out, told)
		rest = rest[end:]
	}
	return strings.Join(out, "; ")
}

// printWords is what Print has to answer, as printed tells it.
func (r reader) printWords(s api.Script) string {
	name := regexp.MustCompile(`\A[a-z_][A-Za-z0-9_]*\z`)
	right := s.Cascade >= 0 && s.Cascade <= 999999 && s.Bits >= 0 && s.Bits <= 999999
	number := func(a api.Rat) string {
		b := bigOf(a)
		right = right && short(b.Num()) && short(b.Denom())
		return b.RatString()
	}
	out := "horizon " + number(s.Horizon) + "\ncascade " + strconv.Itoa(s.Cascade) + "\nbits " + strconv.Itoa(s.Bits) + "\n"
	for _, c := range s.Changes {
		right = right && name.MatchString(c.Input)
		out += "at " + number(c.At) + " " + c.Input + " = " + number(c.Value) + "\n"
	}
	return oneIf(right, out, "ErrArg")
}

// rightWords is what Right has to answer.
func rightWords(s api.Script, ins []string) bool {
	horizon := bigOf(s.Horizon)
	right := horizon.Sign() >= 0 && s.Cascade >= 0 && s.Cascade <= 999999 && s.Bits >= 1 && s.Bits <= 900
	for i, c := range s.Changes {
		at := bigOf(c.At)
		right = right && at.Sign() >= 0 && at.Cmp(horizon) <= 0 && slices.Index(ins, c.Input) >= 0
		right = right && (i == 0 || bigOf(s.Changes[i-1].At).Cmp(at) <= 0)
	}
	return right
}

// anyText is a text of a script in which some things may be otherwise.
func anyText(r *rand.Rand) string {
	b, _ := script.Print(sample.Script(r.Intn, []string{"v", "w_2", "if"}))
	text := string(b)
	for range r.Intn(4) {
		i := r.Intn(len(text) + 1)
		j := min(len(text), i+r.Intn(3))
		pieces := []string{"", " ", "\n", "0", "7", "-", "/", ".", "/0", ".5", "v", "V", "_", "=", "at", "bits 1\n", "at 1 v = 1\n", "horizon", "cascade 2\n", "é", "\xff", "\t", "\r\n", "000000", strings.Repeat("0", 299), strings.Repeat("7", 300)}
		switch r.Intn(8) {
		case 0, 1:
			text = text[:i] + pieces[r.Intn(len(pieces))] + text[i:]
		case 2:
			text = text[:i] + pieces[r.Intn(len(pieces))] + text[j:]
		case 3:
			text = text[:i] + text[j:]
		case 4:
			text = text[:i]
		case 5:
			lines := strings.SplitAfter(text, "\n")
			k := r.Intn(len(lines))
			text = strings.Join(slices.Delete(lines, k, k+1), "")
		default:
			fields := strings.Split(text, " ")
			k := r.Intn(len(fields))
			old, rest, _ := strings.Cut(fields[k], "\n")
			fields[k] = oneIf(r.Intn(2) == 0, old+pieces[r.Intn(len(pieces))], pieces[r.Intn(len(pieces))]) + oneIf(strings.Contains(fields[k], "\n"), "\n", "") + rest
			text = strings.Join(fields, " ")
		}
	}
	return text
}

func TestParseWords(t *testing.T) {
	// 19.1: any text is as the words say; what is parsed is printed, and that is parsed as the same (19.3).
	n, read := tally{}, newReader()
	for seed := range int64(50000) {
		text := anyText(dice(seed))
		want := read.parse(text)
		is(t, text, parsed(text), want)
		if strings.HasPrefix(want, "ErrScript ") {
			n.note("line "+strings.TrimPrefix(want, "ErrScript "), true)
			continue
		}
		s, _, _ := script.Parse([]byte(text))
		again := printed(s)
		is(t, text, parsed(again), want)
		n.note("printed otherwise", again != text)
		n.note("as it was printed", again == text)
		n.note("with changes", len(s.Changes) > 0)
		if t.Failed() {
			t.FailNow()
		}
	}
	n.least(t, 300, "line 1", "line 2", "line 3", "line 4", "line 5", "printed otherwise", "as it was printed", "with changes")
}

func TestParseBytes(t *testing.T) {
	// 19.1: any bytes, of few kinds.
	read := newReader()
	for seed := range int64(20000) {
		r := dice(seed)
		var b []byte
		for range r.Intn(30) {
			b = append(b, "horizn cascade bits at v = 01/.-\n\n\x00\xff"[r.Intn(36)])
		}
		is(t, string(b), parsed(string(b)), read.parse(string(b)))
		behind := "horizon 1\ncascade 1\nbits 1\nat 1 v = 1\n" + string(b)
		is(t, behind, parsed(behind), read.parse(behind))
	}
}

// anyNumber is one in any form; most are small, so that times meet; some have too many digits.
func anyNumber(r *rand.Rand) api.Rat {
	a := rat(strconv.Itoa(r.Intn(12)-1) + "/" + strconv.Itoa(1+r.Intn(3)))
	switch r.Intn(15) {
	case 0:
		a = ratio.Mul(a, rat(nines(298+r.Intn(4))))
	case 1:
		a = ratio.Mul(a, rat("1/"+nines(298+r.Intn(4))))
	}
	l := forms(a)
	return l[r.Intn(len(l))]
}

// anyScript is one that is right or nearly so, or any.
func anyScript(r *rand.Rand, ins []string) api.Script {
	s := sample.Script(r.Intn, ins)
	for range r.Intn(3) {
		inputs := []string{"v", "", "w_2", "V", "x y", "é", "u"}
		switch i := r.Intn(9); {
		case i == 0:
			s.Horizon = anyNumber(r)
		case i == 1:
			s.Cascade = []int{-1, 0, 7, 999999, 1000000, -1 << 63, 1<<63 - 1}[r.Intn(7)]
		case i == 2:
			s.Bits = []int{-1, 0, 1, 900, 901, 999999, 1000000, 1<<63 - 1}[r.Intn(8)]
		case len(s.Changes) == 0:
		case i < 5:
			s.Changes[r.Intn(len(s.Changes))].At = anyNumber(r)
		case i < 7:
			s.Changes[r.Intn(len(s.Changes))].Value = anyNumber(r)
		default:
			s.Changes[r.Intn(len(s.Changes))].Input = inputs[r.Intn(len(inputs))]
		}
	}
	return s
}

func TestPrintWords(t *testing.T) {
	// 19.2, 19.3: any script is as the words say; what is printed is parsed as the same script.
	n, read := tally{}, newReader()
	for seed := range int64(20000) {
		r := dice(seed)
		ins := []string{"v", "w_2", "u"}[:r.Intn(4)]
		s := anyScript(r, ins)
		text := printed(s)
		is(t, "print", text, read.printWords(s))
		n.note("none", text == "ErrArg")
		if text != "ErrArg" {
			is(t, text, parsed(text), toldWords(s))
		}
		right := script.Right(s, ins)
		if right != rightWords(s, ins) {
			t.Error("right", s, ins)
		}
		n.note("right", right)
		n.note("not right, but printed", !right && text != "ErrArg")
		n.note("right, but not printed", right && text == "ErrArg")
		if t.Failed() {
			t.FailNow()
		}
	}
	n.least(t, 100, "none", "right", "not right, but printed", "right, but not printed")
}

// toldWords tells a script as told does, its numbers by what they say.
func toldWords(s api.Script) string {
	out := []string{bigOf(s.Horizon).RatString(), strconv.Itoa(s.Cascade), strconv.Itoa(s.Bits)}
	for _, c := range s.Changes {
		out = append(out, bigOf(c.At).RatString()+" "+c.Input+" "+bigOf(c.Value).RatString())
	}
	return strings.Join(out, "; ")
}

func TestRightSamples(t *testing.T) {
	// 19.2: scripts that are right by their making are so; not so for one input less.
	n := tally{}
	for seed := range int64(3000) {
		r := dice(seed)
		ins := []string{"a", "b", "c"}
		s := sample.Script(r.Intn, ins)
		used := slices.ContainsFunc(s.Changes, func(c api.Change) bool { return c.Input == "c" })
		if !script.Right(s, ins) || script.Right(s, ins[:2]) == used {
			t.Fatal(s)
		}
		n.note("used", used)
		n.note("not used", !used)
	}
	n.least(t, 300, "used", "not used")
}

func TestRuns(t *testing.T) {
	// 19.3: a run by what was printed and parsed is the same run.
	n := tally{}
	for seed := range int64(400) {
		r := dice(seed)
		p := sample.Causal(r.Intn, 20+r.Intn(30))
		f, err, _ := flat.Of(p)
		if err != api.OK {
			continue
		}
		s := sample.Script(r.Intn, f.Ins)
		b, printErr := script.Print(s)
		again, parseErr, _ := script.Parse(b)
		if printErr != api.OK || parseErr != api.OK || !script.Right(again, f.Ins) {
			t.Fatal(s)
		}
		want, ended := meaning.Flat(f, s, 200)
		got, gotEnded := meaning.Flat(f, again, 200)
		if ended != gotEnded || !reflect.DeepEqual(got, want) {
			t.Fatal(string(b))
		}
		n.note("with changes", len(s.Changes) > 0)
	}
	n.least(t, 100, "with changes")
}

// spare is a number with limbs behind its ends that are not its own.
func spare(a api.Rat) api.Rat {
	more := func(l []uint32) []uint32 { return append(slices.Clone(l), 0xdead, 0xbeef)[:len(l)] }
	return api.Rat{Num: api.Int{Neg: a.Num.Neg, Mag: more(a.Num.Mag)}, Den: more(a.Den)}
}

// behind are all limbs of a number, those behind its ends too.
func behind(a api.Rat) []uint32 {
	return append(append([]uint32{}, a.Num.Mag[:cap(a.Num.Mag)]...), a.Den[:cap(a.Den)]...)
}

// behindAll are all limbs and names of a script.
func behindAll(s api.Script) ([]uint32, []string) {
	out := behind(s.Horizon)
	var names []string
	for _, c := range s.Changes[:cap(s.Changes)] {
		out = append(append(out, behind(c.At)...), behind(c.Value)...)
		names = append(names, c.Input)
	}
	return out, names
}

func TestMemoryOfScripts(t *testing.T) {
	// R4: what is handed in is neither changed nor kept, what lies behind its end too; a text is memory of its own.
	for seed := range int64(2000) {
		r := dice(seed)
		ins := append([]string{"v", "w_2"}, "u", "x")[:2]
		s := anyScript(r, ins)
		s.Horizon = spare(s.Horizon)
		for i, c := range s.Changes {
			s.Changes[i] = api.Change{At: spare(c.At), Input: c.Input, Value: spare(c.Value)}
		}
		s.Changes = append(s.Changes, api.Change{At: rat("3"), Input: "behind"})[:len(s.Changes)]
		limbsAhead, namesAhead := behindAll(s)
		first, err := script.Print(s)
		second, _ := script.Print(s)
		script.Right(s, ins)
		for i := range first[:cap(first)] {
			first[:cap(first)][i] = 'x'
		}
		if third, _ := script.Print(s); err == api.OK && (!slices.Equal(second, third) || strings.Trim(string(first), "x") != "") {
			t.Fatal("texts", s)
		}
		limbsBehind, namesBehind := behindAll(s)
		if !slices.Equal(limbsAhead, limbsBehind) || !slices.Equal(namesAhead, namesBehind) || !slices.Equal(ins[:4], []string{"v", "w_2", "u", "x"}) {
			t.Fatal("what was handed in", s)
		}
	}
}

// spoil writes over a script's numbers and changes.
func spoil(s api.Script) {
	numbers := []api.Rat{s.Horizon}
	for _, c := range s.Changes {
		numbers = append(numbers, c.At, c.Value)
	}
	for _, a := range numbers {
		for _, l := range [][]uint32{a.Num.Mag[:cap(a.Num.Mag)], a.Den[:cap(a.Den)]} {
			for i := range l {
				l[i] ^= 0x5a5a5a5a
			}
		}
	}
	clear(s.Changes[:cap(s.Changes)])
}

func TestMemoryOfTexts(t *testing.T) {
	// R4: bytes are neither changed nor kept; two answers share nothing.
	for seed := range int64(3000) {
		r := dice(seed)
		text := anyText(r)
		b := append([]byte(text), "behind"...)[:len(text)]
		one, _, _ := script.Parse(b)
		want := toldWords(one)
		two, _, _ := script.Parse(b)
		spoil(two)
		if string(b[:len(text)+6]) != text+"behind" {
			t.Fatal("what was handed in", text)
		}
		for i := range b {
			b[i] = '?'
		}
		is(t, text, toldWords(one), want)
		// No number of an answer shares limbs with another one.
		for i, c := range one.Changes {
			numbers := []api.Rat{c.At, c.Value}
			kept := toldWords(api.Script{Horizon: one.Horizon, Changes: slices.Delete(slices.Clone(one.Changes), i, i+1)})
			spoil(api.Script{Horizon: numbers[0]})
			spoil(api.Script{Horizon: numbers[1]})
			is(t, text, toldWords(api.Script{Horizon: one.Horizon, Changes: slices.Delete(slices.Clone(one.Changes), i, i+1)}), kept)
		}
	}
}
