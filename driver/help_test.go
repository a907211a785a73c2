package driver_test

import (
	"math/rand"
	"reflect"
	"strconv"
	"strings"
	"testing"

	"foliot/api"
	"foliot/driver"
	"foliot/parse"
	"foliot/trace"
)

func dice(seed int64) *rand.Rand { return rand.New(rand.NewSource(seed)) }

// errs are the errors' names.
var errs = map[api.Errno]string{
	api.ErrLong: "ErrLong", api.ErrByte: "ErrByte", api.ErrWant: "ErrWant", api.ErrDeep: "ErrDeep", api.ErrTwice: "ErrTwice", api.ErrName: "ErrName",
	api.ErrDef: "ErrDef", api.ErrCall: "ErrCall", api.ErrRound: "ErrRound", api.ErrMain: "ErrMain", api.ErrBranch: "ErrBranch", api.ErrType: "ErrType",
	api.ErrKind: "ErrKind", api.ErrInit: "ErrInit", api.ErrCause: "ErrCause", api.ErrBig: "ErrBig", api.ErrScript: "ErrScript",
}

// textOf tells an outcome: its kind, and why and where something refuses; or the trace's text. What is not told must be zero.
func textOf(o api.Outcome) string {
	kind := map[int]string{0: "none", api.KSyntax: "syntax", api.KStatic: "static", api.KScript: "script", api.KTrace: "trace", api.KStop: "stop"}[o.Kind]
	switch o.Kind {
	case 0:
		if reflect.DeepEqual(o, api.Outcome{}) {
			return kind
		}
	case api.KSyntax, api.KStatic, api.KScript:
		if reflect.DeepEqual(o.Trace, api.Trace{}) && errs[o.Err] != "" {
			return kind + " " + errs[o.Err] + " " + strconv.Itoa(o.Place)
		}
	case api.KTrace, api.KStop:
		text, err := trace.Encode(o.Trace)
		if err == api.OK && o.Err == api.OK && o.Place == 0 {
			return kind + " " + strings.ReplaceAll(strings.TrimSuffix(string(text), "\n"), "\n", "; ")
		}
	}
	return "bad"
}

// scripted is a script's text: its horizon, cascade and bits; and its changes, each a time, an input, a value.
func scripted(short string) string {
	parts := strings.Split(short, "; ")
	l := strings.Fields(parts[0])
	out := "horizon " + l[0] + "\ncascade " + l[1] + "\nbits " + l[2] + "\n"
	for _, part := range parts[1:] {
		l := strings.Fields(part)
		out += "at " + l[0] + " " + l[1] + " = " + l[2] + "\n"
	}
	return out
}

// tells asks for the outcome of a source and a script's text.
func tells(t *testing.T, source, text, want string) {
	t.Helper()
	if got := textOf(driver.Run([]byte(source), []byte(text))); got != want {
		t.Errorf("%.300q\n%.300q\ngot  %.600s\nwant %.600s", source, text, got, want)
	}
}

// runs asks for the outcome of a source and a script that is told in short.
func runs(t *testing.T, source, short, want string) {
	t.Helper()
	tells(t, source, scripted(short), want)
}

// refuses asks that a source is refused so, by Run whatever the text is, and by Build.
func refuses(t *testing.T, source, want string) {
	t.Helper()
	for _, text := range []string{"", "horizon 1\ncascade 1\nbits 64\n", "horizon 1\ncascade 1\nbits 64\nat 1 nobody = 1\n", strings.Repeat("\n", api.MaxSource+1), "\x00\xff"} {
		tells(t, source, text, want)
	}
	c, ins, o := driver.Build([]byte(source))
	if textOf(o) != want || len(ins) > 0 || !reflect.DeepEqual(c, api.Code{}) {
		t.Errorf("%.300q\ngot  %s %v %.300v\nwant %s", source, textOf(o), ins, c, want)
	}
}

func program(t *testing.T, source string) api.Program {
	t.Helper()
	p, err, place := parse.Parse([]byte(source))
	if err != api.OK {
		t.Fatalf("%s: %v, %d", source, err, place)
	}
	return p
}

// mainOf is a program's main.
func mainOf(p api.Program) api.Node {
	for _, n := range p.Nodes {
		if n.Name == "main" {
			return n
		}
	}
	return api.Node{}
}

// insOf are the names of main's inputs.
func insOf(p api.Program) []string {
	var out []string
	for _, v := range mainOf(p).In {
		out = append(out, v.Name)
	}
	return out
}

// tally counts what was seen.
type tally map[string]int

func (n tally) note(what string, is bool) {
	if is {
		n[what]++
	}
}

func (n tally) least(t *testing.T, least int, what ...string) {
	t.Helper()
	for _, x := range what {
		if n[x] < least {
			t.Error(x, n[x])
		}
	}
}
