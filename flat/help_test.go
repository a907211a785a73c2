package flat_test

import (
	"math/rand"
	"reflect"
	"strconv"
	"strings"
	"testing"

	"foliot/api"
	"foliot/flat"
	"foliot/meaning"
	"foliot/parse"
	"foliot/ratio"
	"foliot/show"
)

func dice(seed int64) *rand.Rand { return rand.New(rand.NewSource(seed)) }

func program(t *testing.T, src string) api.Program {
	t.Helper()
	p, err, place := parse.Parse([]byte(src))
	if err != api.OK {
		t.Fatalf("%s: %v, %d", src, err, place)
	}
	return p
}

func sourceOf(p api.Program) string {
	text, _ := show.Show(p)
	return string(text)
}

// flattened tells a program's flat one, which must be good.
func flattened(t *testing.T, p api.Program) api.Flat {
	t.Helper()
	f, err, place := flat.Of(p)
	if err != api.OK || place != 0 || !flat.Good(f) {
		t.Fatalf("%s\n%v, %d, %v", sourceOf(p), err, place, flat.Good(f))
	}
	return f
}

// scriptOf reads a script's text: its Horizon, Cascade and Bits, then changes, each the time, the input and the value.
func scriptOf(text string) api.Script {
	l := strings.Fields(text)
	num := func(s string) api.Rat { r, _ := ratio.Parse(s); return r }
	s := api.Script{Horizon: num(l[0])}
	s.Cascade, _ = strconv.Atoi(l[1])
	s.Bits, _ = strconv.Atoi(l[2])
	for l = l[3:]; len(l) > 0; l = l[3:] {
		s.Changes = append(s.Changes, api.Change{At: num(l[0]), Input: l[1], Value: num(l[2])})
	}
	return s
}

// textOf tells a trace: of each entry its time, its index, and what it told, and how and where the run ended.
func textOf(t api.Trace) string {
	var l []string
	for _, e := range t.Entries {
		s := ratio.Print(e.At) + " " + strconv.Itoa(e.Index) + ":"
		for _, v := range e.Outs {
			switch v.Kind {
			case api.VNil:
				s += " ?"
			case api.VBool:
				s += " " + strconv.FormatBool(ratio.Sign(v.Num) != 0)
			case api.VNum:
				s += " " + ratio.Print(v.Num)
			default:
				s += " " + v.Name
			}
		}
		l = append(l, s)
	}
	end := strings.Fields("more done div cascade big")[t.End] + " " + ratio.Print(t.At)
	if t.End != api.EndDone {
		end += " " + strconv.Itoa(t.Index)
	}
	return strings.Join(append(l, end), "; ")
}

// runs asks that a source's flat program does this by a script, and so does the source.
func runs(t *testing.T, src, script, want string) {
	t.Helper()
	p := program(t, src)
	f := flattened(t, p)
	s := scriptOf(script)
	if got, ok := meaning.Flat(f, s, 100); !ok || textOf(got) != want {
		t.Errorf("%s\n%s\ngot  %s\nwant %s", src, script, textOf(got), want)
	}
	if got, ok := meaning.Source(p, s, 100); !ok || textOf(got) != want {
		t.Errorf("%s\n%s\nthe source tells %s\nwant %s", src, script, textOf(got), want)
	}
}

// agrees holds a flat program's run against what its program means, and tells that.
func agrees(t *testing.T, p api.Program, f api.Flat, s api.Script) api.Trace {
	t.Helper()
	want, ok := meaning.Source(p, s, 40)
	got, well := meaning.Flat(f, s, 40)
	if !ok || !well || !reflect.DeepEqual(got, want) {
		t.Fatalf("%s\n%v\ngot  %v %s\nwant %v %s", sourceOf(p), s, well, textOf(got), ok, textOf(want))
	}
	return want
}
