package solve_test

import (
	"math/big"
	"math/rand"
	"reflect"
	"slices"
	"testing"

	"foliot/api"
	"foliot/code"
	"foliot/exec"
	"foliot/flat"
	"foliot/plan"
	"foliot/ratio"
	"foliot/sample"
	"foliot/solve"
)

// The chapter's words, said a second time on the library's numbers.

func atWords(l api.Line, dt *big.Rat) *big.Rat {
	if !l.On {
		return new(big.Rat)
	}
	out := new(big.Rat).Mul(bigOf(l.S), dt)
	return out.Add(out, bigOf(l.V))
}

// passesWords is nil, if there is no such time.
func passesWords(l api.Line) *big.Rat {
	if l.On && bigOf(l.V).Sign() < 0 && bigOf(l.S).Sign() > 0 {
		out := new(big.Rat).Quo(bigOf(l.V), bigOf(l.S))
		return out.Neg(out)
	}
	return nil
}

func nextWords(l []api.Line) *big.Rat {
	var all []*big.Rat
	for _, x := range l {
		if dt := passesWords(x); dt != nil {
			all = append(all, dt)
		}
	}
	if len(all) == 0 {
		return nil
	}
	return slices.MinFunc(all, (*big.Rat).Cmp)
}

func passedWords(l []api.Line, dt *big.Rat) []bool {
	var out []bool
	for _, x := range l {
		out = append(out, x.On && bigOf(x.V).Sign() < 0 && atWords(x, dt).Sign() >= 0)
	}
	return out
}

func wordsText(dt *big.Rat) string {
	if dt == nil {
		return "-"
	}
	return dt.RatString()
}

// tally counts what was seen.
type tally map[string]int

func (n tally) note(what string, is bool) {
	if is {
		n[what]++
	}
}

func (n tally) least(t *testing.T, least int, what ...string) {
	t.Helper()
	for _, x := range what {
		if n[x] < least {
			t.Error(x, n[x])
		}
	}
}

// anyTimes are some times, at which lines pass and at which they do not.
func anyTimes(r *rand.Rand, l []api.Line) []api.Rat {
	out := []api.Rat{anyNumber(r), {}}
	for _, x := range l {
		if dt, ok := solve.Passes(x); ok {
			out = append(out, dt)
		}
	}
	return out
}

func TestWords(t *testing.T) {
	// 18.1, 18.2: any lines, at any times, are as the words say.
	n := tally{}
	for seed := range int64(20000) {
		r := dice(seed)
		l := anyLines(r)
		for _, x := range l {
			is(t, "passes", timeText(solve.Passes(x)), wordsText(passesWords(x)))
		}
		is(t, "next", timeText(solve.Next(l)), wordsText(nextWords(l)))
		for _, dt := range anyTimes(r, l) {
			for _, x := range l {
				is(t, "at", text(solve.At(x, dt)), wordsText(atWords(x, bigOf(dt))))
			}
			passed := marks(solve.Passed(l, dt))
			is(t, "passed", passed, marks(passedWords(l, bigOf(dt))))
			n.note("some passed", slices.Contains(solve.Passed(l, dt), true))
		}
		n.note("none passes", nextWords(l) == nil)
		if t.Failed() {
			t.Fatal(l)
		}
	}
	n.least(t, 500, "some passed", "none passes")
}

func TestLaws(t *testing.T) {
	// 18.3: at the next time some line passes; ahead of it none does; each that passes then is 0 there. What is not below 0 does not pass.
	n := tally{}
	half := rat("1/2")
	for seed := range int64(10000) {
		r := dice(seed)
		l := anyLines(r)
		next, ok := solve.Next(l)
		n.note("none", !ok)
		ahead := ratio.Mul(next, half)
		some := 0
		for i, x := range l {
			dt, passes := solve.Passes(x)
			switch {
			case passes && (!ok || ratio.Cmp(dt, next) < 0):
				t.Fatal("ahead of the next time", l, i)
			case passes && ratio.Cmp(dt, next) == 0:
				some++
				if ratio.Sign(solve.At(x, next)) != 0 || !solve.Passed(l, next)[i] {
					t.Fatal("what passes then", l, i)
				}
			case ok && solve.Passed(l, next)[i]:
				t.Fatal("what does not pass then", l, i)
			}
			if passes && (ratio.Sign(dt) <= 0 || !x.On || ratio.Sign(x.V) >= 0 || ratio.Sign(x.S) <= 0) {
				t.Fatal("what does not pass", l, i)
			}
		}
		if ok != (some > 0) {
			t.Fatal("the next time", l)
		}
		n.note("one", some == 1)
		n.note("more than one", some > 1)
		if ok && slices.Contains(solve.Passed(l, ahead), true) {
			t.Fatal("ahead of the next time", l)
		}
		// Half the way on, the next time is as far again.
		if ok && timeText(solve.Next(moved(l, ahead))) != text(ahead) {
			t.Fatal("half the way", l)
		}
		if ok && !reflect.DeepEqual(solve.Passed(moved(l, ahead), ahead), solve.Passed(l, next)) {
			t.Fatal("half the way", l)
		}
	}
	n.least(t, 300, "none", "one", "more than one")
}

// moved are lines so much later.
func moved(l []api.Line, dt api.Rat) []api.Line {
	out := slices.Clone(l)
	for i, x := range l {
		out[i].V = solve.At(x, dt)
	}
	return out
}

func TestOrder(t *testing.T) {
	// The least time hangs on no order; what passed is told line by line, of each alone.
	for seed := range int64(3000) {
		r := dice(seed)
		l := anyLines(r)
		order := r.Perm(len(l))
		other := make([]api.Line, len(l))
		for i, j := range order {
			other[j] = l[i]
		}
		is(t, "next", timeText(solve.Next(other)), timeText(solve.Next(l)))
		dt := anyNumber(r)
		passed, ofOther := solve.Passed(l, dt), solve.Passed(other, dt)
		for i, j := range order {
			if passed[i] != ofOther[j] || passed[i] != solve.Passed(l[i:i+1], dt)[0] {
				t.Fatal(l, dt)
			}
		}
	}
}

func TestMany(t *testing.T) {
	// Many lines, the one that passes first among them.
	const n = 20000
	var l []api.Line
	for i := range int64(n) {
		l = append(l, api.Line{On: true, V: ratio.Of(i - n), S: ratio.Of(1 + (i*7919+13)%n)})
	}
	want := nextWords(l)
	is(t, "many", timeText(solve.Next(l)), wordsText(want))
	is(t, "many", marks(solve.Passed(l, rat(want.RatString()))), marks(passedWords(l, want)))
}

// spare is a number with limbs behind its ends that are not its own.
func spare(a api.Rat) api.Rat {
	more := func(l []uint32) []uint32 { return append(slices.Clone(l), 0xdead, 0xbeef)[:len(l)] }
	return api.Rat{Num: api.Int{Neg: a.Num.Neg, Mag: more(a.Num.Mag)}, Den: more(a.Den)}
}

// behind are all limbs of a number, those behind its ends too.
func behind(a api.Rat) []uint32 {
	return append(append([]uint32{}, a.Num.Mag[:cap(a.Num.Mag)]...), a.Den[:cap(a.Den)]...)
}

// spoil writes over a number.
func spoil(a api.Rat) {
	for _, l := range [][]uint32{a.Num.Mag[:cap(a.Num.Mag)], a.Den[:cap(a.Den)]} {
		for i := range l {
			l[i] ^= 0x5a5a5a5a
		}
	}
}

func TestMemory(t *testing.T) {
	// R4: what is handed in is neither changed nor kept, what lies behind its end too; what is told is memory of its own.
	for seed := range int64(3000) {
		r := dice(seed)
		dt := spare(anyNumber(r))
		var l []api.Line
		for _, x := range anyLines(r) {
			l = append(l, api.Line{On: x.On, V: spare(x.V), S: spare(x.S)})
		}
		all := func() []uint32 {
			out := behind(dt)
			for _, x := range l[:cap(l)] {
				out = append(append(out, behind(x.V)...), behind(x.S)...)
			}
			return out
		}
		ahead := all()
		next, _ := solve.Next(l)
		told := []api.Rat{next}
		for _, x := range l {
			passes, _ := solve.Passes(x)
			told = append(told, solve.At(x, dt), passes)
		}
		passed := solve.Passed(l, dt)
		clear(solve.Passed(l, dt))
		for i, a := range told {
			want := slices.Clone(behind(told[(i+1)%len(told)]))
			spoil(a)
			if len(told) > 1 && !slices.Equal(want, behind(told[(i+1)%len(told)])) {
				t.Fatal("two answers", l, dt)
			}
		}
		if !slices.Equal(ahead, all()) || !slices.Equal(passed, solve.Passed(l, dt)) {
			t.Fatal("what was handed in", l, dt)
		}
	}
}

// machineOf is a machine of a program that is right; nil, if it is too big.
func machineOf(t *testing.T, p api.Program) (*exec.Machine, int) {
	t.Helper()
	f, err, _ := flat.Of(p)
	if err == api.ErrBig {
		return nil, 0
	}
	pl, err2 := plan.Of(f)
	c, err3 := code.Of(f, pl)
	m, err4 := exec.New(c)
	if err != api.OK || err2 != api.OK || err3 != api.OK || err4 != api.OK {
		t.Fatal(err, err2, err3, err4)
	}
	return m, len(f.Ins)
}

func TestCrossings(t *testing.T) {
	// What crossings ask, once states are moved up to the next time, is what their lines are then (12.2).
	const bits = 1 << 20
	n := tally{}
	for seed := range int64(4000) {
		r := dice(seed)
		m, ins := machineOf(t, sample.Causal(r.Intn, 40))
		if m == nil {
			continue
		}
		in := make([]api.Rat, ins)
		for range 4 {
			for i := range in {
				in[i] = anyNumber(r)
			}
			m.Step(in, nil, bits)
			m.Deriv()
			l, div, _ := m.Cross(bits)
			dt, ok := solve.Next(l)
			if !ok || div {
				continue
			}
			m.Move(dt, bits)
			then, _, _ := m.Cross(bits)
			for i, passed := range solve.Passed(l, dt) {
				if then[i].On != l[i].On || l[i].On && text(then[i].V) != text(solve.At(l[i], dt)) || passed != (l[i].On && ratio.Sign(l[i].V) < 0 && ratio.Sign(then[i].V) >= 0) {
					t.Fatal(l, dt, then)
				}
				n.note("passed", passed)
				n.note("not passed", l[i].On && !passed)
			}
		}
	}
	n.least(t, 300, "passed", "not passed")
}
