package driver_test

import (
	"bytes"
	"math/rand"
	"reflect"
	"slices"
	"strconv"
	"testing"

	"foliot/api"
	"foliot/cause"
	"foliot/driver"
	"foliot/lex"
	"foliot/meaning"
	"foliot/parse"
	"foliot/ratio"
	"foliot/sample"
	"foliot/script"
	"foliot/show"
	"foliot/sim"
	"foliot/trace"
)

// most is how many instants the second telling of a run goes on for: a run of more is left out.
const most = 60

// meant is the outcome by the words of 22.1, the run by those of chapter 12; false, if that goes on for too long.
func meant(source, text []byte) (api.Outcome, bool) {
	p, err, place := parse.Parse(source)
	if err != api.OK {
		return api.Outcome{Kind: api.KSyntax, Err: err, Place: place}, true
	}
	if err, place := cause.Check(p); err != api.OK {
		return api.Outcome{Kind: api.KStatic, Err: err, Place: place}, true
	}
	s, err, line := script.Parse(text)
	if err != api.OK {
		return api.Outcome{Kind: api.KScript, Err: err, Place: line}, true
	}
	if !script.Right(s, insOf(p)) {
		return api.Outcome{Kind: api.KScript, Err: api.ErrScript}, true
	}
	x, causal := meaning.Source(p, s, most)
	kind := api.KTrace
	if x.End != api.EndDone {
		kind = api.KStop
	}
	return api.Outcome{Kind: kind, Trace: x}, causal && x.End != 0
}

// texts makes a source and a script's text; the source is taken more often than not.
func texts(r *rand.Rand) ([]byte, []byte) {
	makers := []func(func(int) int, int) api.Program{sample.Program, sample.Kinded, sample.Begun, sample.Causal}
	p := makers[min(r.Intn(9), 3)](r.Intn, 20+r.Intn(50))
	source, _ := show.Show(p)
	text, _ := script.Print(sample.Script(r.Intn, insOf(p)))
	return source, text
}

func TestRandomTexts(t *testing.T) {
	// 22.1, P1, P2: what a source and a text come to is what they mean.
	n := tally{}
	for seed := range int64(3000) {
		source, text := texts(dice(seed))
		want, ends := meant(source, text)
		if !ends {
			continue
		}
		got := driver.Run(source, text)
		if !reflect.DeepEqual(got, want) {
			t.Fatalf("%s\n%s\ngot  %v\nwant %v", source, text, got, want)
		}
		n["kind "+strconv.Itoa(got.Kind)]++
		n["end "+strconv.Itoa(got.Trace.End)]++
		n.events(t, source, text, got.Trace)
	}
	n.least(t, 500, "kind 1", "kind 3", "changes")
	n.least(t, 10, "end 2", "end 3", "end 4", "changes behind a stop")
	n.least(t, 1000, "event", "cascade")
}

// events asks of a trace what P4 says: each change, unless the run ended ahead, is at an event; times rise, and within an event indices count on.
func (n tally) events(t *testing.T, source, text []byte, x api.Trace) {
	t.Helper()
	s, _, _ := script.Parse(text)
	for _, c := range s.Changes {
		if ratio.Cmp(c.At, x.At) >= 0 && x.End != api.EndDone {
			n["changes behind a stop"]++
			continue
		}
		at := func(e api.Entry) bool { return e.Index == 0 && ratio.Cmp(e.At, c.At) == 0 }
		if x.End != 0 && !slices.ContainsFunc(x.Entries, at) {
			t.Fatalf("%s\n%s\nno event at %s", source, text, ratio.Print(c.At))
		}
		n.note("changes", x.End != 0)
	}
	for i, e := range x.Entries {
		switch {
		case i == 0 && ratio.Sign(e.At) == 0 && e.Index == 0:
		case i > 0 && ratio.Cmp(e.At, x.Entries[i-1].At) > 0 && e.Index == 0:
			n["event"]++
		case i > 0 && ratio.Cmp(e.At, x.Entries[i-1].At) == 0 && e.Index == x.Entries[i-1].Index+1:
			n["cascade"]++
		default:
			t.Fatalf("%s\n%s\n%v", source, text, x)
		}
	}
}

// spoiled is a text with a few bytes, or words, of it taken away, put in, put twice, or put elsewhere.
func spoiled(r *rand.Rand, text []byte, words []string) []byte {
	out := slices.Clone(text)
	for range r.Intn(3) {
		i, j := r.Intn(len(out)+1), r.Intn(len(out)+1)
		part := out[min(i, j):max(i, j)]
		if len(part) > 6 {
			part = part[:r.Intn(7)]
		}
		switch r.Intn(4) {
		case 0:
			out = bytes.Replace(out, part, nil, 1)
		case 1:
			out = slices.Insert(out, i, []byte(words[r.Intn(len(words))])...)
		case 2:
			out = slices.Insert(out, i, part...)
		case 3:
			out = slices.Insert(out, i, byte(r.Intn(256)))
		}
	}
	return out
}

func TestRandomBytes(t *testing.T) {
	// 22.1, 22.3, P2: whatever bytes there are, there is just one outcome, and Build's agrees with it; nothing panics.
	n := tally{}
	for seed := range int64(6000) {
		r := dice(seed)
		source, text := texts(r)
		source = spoiled(r, source, []string{" x0 ", "(", ")", " 1 ", " pre ", " = ", "; ", " node ", " -> ", " 1.5 ", " main ", "-- ", " rat ", " tel "})
		text = spoiled(r, text, []string{"at 1 x0 = 1\n", "\n", " ", "0", "-", "1/2", "horizon ", "x0"})
		want, ends := meant(source, text)
		if !ends {
			continue
		}
		got := driver.Run(source, text)
		if !reflect.DeepEqual(got, want) {
			t.Fatalf("%q\n%q\ngot  %v\nwant %v", source, text, got, want)
		}
		c, ins, o := driver.Build(source)
		refused := got.Kind == api.KSyntax || got.Kind == api.KStatic
		switch {
		case refused && (!reflect.DeepEqual(o, got) || len(ins) > 0 || !reflect.DeepEqual(c, api.Code{})):
			t.Fatalf("%q\n%v\n%v %v %v", source, got, c, ins, o)
		case !refused && !reflect.DeepEqual(o, api.Outcome{}):
			t.Fatalf("%q\n%v\n%v", source, got, o)
		}
		n["kind "+strconv.Itoa(got.Kind)]++
	}
	n.least(t, 100, "kind 1", "kind 2", "kind 3", "kind 4", "kind 5")
}

func TestAnyBytes(t *testing.T) {
	// 22.3: bytes that are nothing at all are a syntax error, but for blanks.
	for seed := range int64(3000) {
		r := dice(seed)
		b := make([]byte, r.Intn(40))
		for i := range b {
			b[i] = []byte("\x00\xff ( ) { } node main x 1 = -\n")[r.Intn(29)]
		}
		o := driver.Run(b, b)
		want, _ := meant(b, b)
		if o.Kind != api.KSyntax && o.Kind != api.KStatic || !reflect.DeepEqual(o, want) {
			t.Fatalf("%q: %v", b, o)
		}
	}
}

// respaced is the same source with other blanks.
func respaced(r *rand.Rand, source []byte) []byte {
	var out []byte
	l, _, _ := lex.Tokens(source)
	for _, x := range l {
		out = append(out, []string{" ", "\n", "\t\r\n ", " -- tel\n"}[r.Intn(4)]...)
		out = append(out, x.Text...)
	}
	return out
}

func TestShown(t *testing.T) {
	// 22.3, P5: a source and its program's text have the same outcome, a place aside; the text of a run's trace is that trace's.
	n := tally{}
	for seed := range int64(2000) {
		r := dice(seed)
		source, text := texts(r)
		source = respaced(r, spoiled(r, source, []string{" 1 ", " pre ", " (x0) ", " - "}))
		p, err, _ := parse.Parse(source)
		if _, ends := meant(source, text); err != api.OK || !ends {
			continue
		}
		shown, err := show.Show(p)
		if err != api.OK {
			t.Fatal(p, err)
		}
		a, b := driver.Run(source, text), driver.Run(shown, text)
		n.note("places", a.Place != b.Place)
		a.Place, b.Place = 0, 0
		if !reflect.DeepEqual(a, b) {
			t.Fatalf("%s\n%s\n%s\n%v\n%v", source, shown, text, a, b)
		}
		n["kind "+strconv.Itoa(a.Kind)]++
		if a.Kind != api.KTrace && a.Kind != api.KStop {
			continue
		}
		told, err := trace.Encode(a.Trace)
		again, errAgain := trace.Decode(told)
		if err != api.OK || errAgain != api.OK || !bytes.Equal(told, encoded(t, again)) {
			t.Fatalf("%s\n%s\n%v", source, text, a)
		}
	}
	n.least(t, 100, "kind 1", "kind 3", "kind 5", "places")
}

func encoded(t *testing.T, x api.Trace) []byte {
	t.Helper()
	out, err := trace.Encode(x)
	if err != api.OK {
		t.Fatal(x, err)
	}
	return out
}

func TestBuiltRuns(t *testing.T) {
	// 22.2, P6: what is built runs, with the inputs that are told, as Run tells.
	n := tally{}
	for seed := range int64(2000) {
		source, text := texts(dice(seed))
		if _, ends := meant(source, text); !ends {
			continue
		}
		c, ins, o := driver.Build(source)
		want := driver.Run(source, text)
		if o.Kind != 0 {
			continue
		}
		s, _, _ := script.Parse(text)
		x, err := sim.Run(c, ins, s)
		if err != api.OK || !reflect.DeepEqual(x, want.Trace) || !slices.Equal(ins, insOf(program(t, string(source)))) {
			t.Fatalf("%s\n%s\n%v %v\n%v", source, text, x, ins, want)
		}
		n["built"]++
		n.note("inputs", len(ins) > 1)
	}
	n.least(t, 300, "built", "inputs")
}
