package cause_test

import (
	"math/rand"
	"strings"
	"testing"

	"foliot/api"
	"foliot/cause"
	"foliot/parse"
	"foliot/ratio"
	"foliot/show"
)

func dice(seed int64) *rand.Rand { return rand.New(rand.NewSource(seed)) }

func program(t *testing.T, src string) api.Program {
	t.Helper()
	p, err, place := parse.Parse([]byte(src))
	if err != api.OK {
		t.Fatalf("%s: %v, %d", src, err, place)
	}
	return p
}

func sourceOf(p api.Program) string {
	text, _ := show.Show(p)
	return string(text)
}

// checks asks for Check's answer on a program; beside ErrCause stands 0.
func checks(t *testing.T, src string, want api.Errno) {
	t.Helper()
	if err, place := cause.Check(program(t, src)); err != want || place != 0 {
		t.Errorf("%s: got %v, %d", strings.TrimPrefix(src, others), err, place)
	}
}

// others are nodes that may be called: of these same and sum hand on what they are given at once, late does so later, and one not at all.
const others = `type t = {A, B};
node same(a: int) returns (b: int) let b = a; tel
node sum(a: int, c: int) returns (b: int) let b = a + c; tel
node late(a: int) returns (b: int) let b = 0 fby a; tel
node one(a: int) returns (b: int) let b = 1; tel
node both(a: int, c: int) returns (b: int, d: int) let b = a; d = c; tel
node starts() returns (b: int) let b = 0 -> 1; tel
node stays() returns (b: int init 0) let b = last b; tel
`

// hybrid asks for Check's answer on a hybrid main of these outputs and equations, as they stand behind its returns.
func hybrid(t *testing.T, want api.Errno, rest string) {
	t.Helper()
	checks(t, others+"hybrid main(v: rat) returns ("+rest+" tel", want)
}

// circle asks that something hangs on itself; none, that nothing does.
func circle(t *testing.T, rest string) { t.Helper(); hybrid(t, api.ErrCause, rest) }

func none(t *testing.T, rest string) { t.Helper(); hybrid(t, api.OK, rest) }

// filled puts a text where a # stands.
func filled(hole, text string) string { return strings.ReplaceAll(hole, "#", text) }

// some is a script that changes each input once, and lets a run go on for a while.
func some(ins []string) api.Script {
	s := api.Script{Horizon: ratio.Of(4), Cascade: 5, Bits: 200}
	for i, name := range ins {
		s.Changes = append(s.Changes, api.Change{At: ratio.Of(int64(i + 1)), Input: name, Value: ratio.Of(int64(2 - i))})
	}
	return s
}
