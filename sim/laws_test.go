package sim_test

import (
	"math/rand"
	"slices"
	"strconv"
	"strings"
	"testing"

	"foliot/api"
	"foliot/exec"
	"foliot/flat"
	"foliot/meaning"
	"foliot/safe"
	"foliot/sample"
	"foliot/script"
	"foliot/sim"
	"foliot/trace"
)

// most is how many instants the tests' second tellings go on for: a run of more is left out.
const most = 60

// runs asks that a run tells what it ought to, and that its text is read again (P5).
func (n tally) runs(t *testing.T, c api.Code, ins []string, s api.Script, want api.Trace) {
	t.Helper()
	if want.End == 0 {
		n["more"]++
		return
	}
	if got := ran(c, ins, s); got != traceText(want) {
		t.Fatalf("%v\n%v\ngot  %s\nwant %s", c, s, got, traceText(want))
	}
	x, _ := sim.Run(c, ins, s)
	text, err := trace.Encode(x)
	again, errAgain := trace.Decode(text)
	if trace.Right(x) && (err != api.OK || errAgain != api.OK || traceText(again) != traceText(x)) {
		t.Fatalf("%s", text)
	}
	n.note("text", err == api.OK)
	n["end "+strconv.Itoa(want.End)]++
	n["instants"] += len(want.Entries)
	for i, e := range want.Entries {
		n.note("cascade", e.Index > 0)
		n.note("event", i > 0 && e.Index == 0)
	}
}

func TestRandomPrograms(t *testing.T) {
	// 21.1, P1, P6: what is made of a source runs as that means.
	n := tally{}
	for seed := range int64(2500) {
		r := dice(seed).Intn
		p := sample.Causal(r, 20+r(50))
		f, err, _ := flat.Of(p)
		if err != api.OK {
			continue
		}
		s := sample.Script(r, f.Ins)
		if want, ok := meaning.Source(p, s, most); ok {
			n.runs(t, planned(t, f), f.Ins, s, want)
		}
	}
	n.least(t, 500, "end 1")
	n.least(t, 10, "end 2", "end 3", "end 4")
	n.least(t, 1000, "event", "cascade")
}

func TestRandomFlats(t *testing.T) {
	// 21.1, P6: so does what is made of a flat program.
	n := tally{}
	for seed := range int64(4000) {
		r := dice(seed).Intn
		f := sample.Flat(r, r(40), false)
		s := sample.Script(r, f.Ins)
		if want, ok := meaning.Flat(f, s, most); ok {
			n.runs(t, planned(t, f), f.Ins, s, want)
		}
	}
	n.least(t, 1000, "end 1", "event", "text")
	n.least(t, 50, "cascade", "end 2", "end 3", "end 4")
}

// lively is object code whose states are numbers that go on, from some place below what crossings ask, if there is room for it; as Step leaves them.
func lively(r *rand.Rand, c api.Code) api.Code {
	if c.Slots == 0 || c.Crosses == 0 || c.Lines == 0 || len(c.Conts) == 0 {
		return c
	}
	num := func(n int) api.Value { return val(strconv.Itoa(n) + "/" + strconv.Itoa(1+r.Intn(2))) }
	slot := r.Intn(c.Slots)
	c.Step = append(slices.Clone(c.Step), api.Ins{Op: "lit", Dst: slot, Lit: num(1 + r.Intn(3)), Guard: -1})
	c.Deriv, c.Cross, c.Conts = slices.Clone(c.Deriv), slices.Clone(c.Cross), slices.Clone(c.Conts)
	for k := range c.Conts {
		c.Conts[k] = num(-r.Intn(5))
		c.Deriv = append(c.Deriv, api.Ins{Op: "slope", K: k, Args: []int{-1, slot}, Guard: -1})
	}
	for k := range c.Crosses {
		c.Cross = append(c.Cross, api.Ins{Op: "lcont", K: r.Intn(len(c.Conts)), Guard: -1}, api.Ins{Op: "ask", K: k, Args: []int{0}, Guard: -1})
	}
	return c
}

// names are inputs; two may have one name.
func names(r *rand.Rand, n int) []string {
	var out []string
	for range n {
		out = append(out, []string{"a", "b", "c", "d", "e", "f", "g"}[r.Intn(7)])
	}
	return out
}

// anyCode is object code that may run, and its inputs.
func anyCode(r *rand.Rand) (api.Code, []string) {
	c := sample.Code(r.Intn, r.Intn(20))
	if r.Intn(2) == 0 {
		c = lively(r, c)
	}
	return c, names(r, c.Ins)
}

func TestRandomCodes(t *testing.T) {
	// 21.1: any object code that may run does as the words say; two inputs may have one name.
	n := tally{}
	for seed := range int64(8000) {
		r := dice(seed)
		c, ins := anyCode(r)
		s := sample.Script(r.Intn, ins)
		n.runs(t, c, ins, s, meaning.Code(c, ins, s, most))
		n.note("a name twice", len(slices.Compact(slices.Sorted(slices.Values(ins)))) < len(ins) && len(s.Changes) > 0)
	}
	n.least(t, 100, "end 1", "end 2", "end 3", "end 4", "event", "cascade", "a name twice", "text")
}

func TestRandomRefusals(t *testing.T) {
	// 21.1: ErrCode, where code may not run, or inputs are not as many; else ErrScript, where a script is not right; else none.
	n := tally{}
	for seed := range int64(6000) {
		r := dice(seed)
		c := sample.Code(r.Intn, r.Intn(8))
		if len(c.Step) > 0 {
			x := &c.Step[r.Intn(len(c.Step))]
			*[]*int{&x.Dst, &x.K, &x.Guard, &c.Slots}[r.Intn(4)] = r.Intn(7) - 1
		}
		ins := names(r, max(0, c.Ins+[]int{0, 0, 0, 1, -1}[r.Intn(5)]))
		s := sample.Script(r.Intn, ins)
		s.Cascade, s.Bits = s.Cascade-r.Intn(2), s.Bits-r.Intn(2)*r.Intn(3)
		if len(s.Changes) > 1 && r.Intn(4) == 0 {
			i := r.Intn(len(s.Changes) - 1)
			s.Changes[i], s.Changes[i+1] = s.Changes[i+1], s.Changes[i]
		}
		if len(ins) > 0 && r.Intn(4) == 0 {
			ins[r.Intn(len(ins))] = "other"
		}
		want := ""
		switch {
		case !safe.Right(c) || len(ins) != c.Ins:
			want = "ErrCode"
		case !script.Right(s, ins):
			want = "ErrScript"
		case meaning.Code(c, ins, s, most).End == 0:
			continue
		}
		got := ran(c, ins, s)
		if strings.HasPrefix(got, "bad") || strings.HasPrefix(got, "Err") != (want != "") || want != "" && got != want {
			t.Fatalf("%v %v %v: got %s, want %s", c, ins, s, got, want)
		}
		n[want]++
		n.note("not as many", safe.Right(c) && len(ins) != c.Ins)
	}
	n.least(t, 500, "", "ErrCode", "ErrScript", "not as many")
}

// recorder is a machine that notes what is asked of it; when, it tells by how far it was moved.
type recorder struct {
	*exec.Machine
	at     api.Rat
	index  int
	phases []api.Phase
}

func (m *recorder) put(kind int) {
	m.phases = append(m.phases, api.Phase{Kind: kind, At: m.at, Index: m.index, Mems: m.Mems(), Conts: m.Conts(), Outs: m.Outs(), Lines: m.States()})
}

func (m *recorder) Step(in []api.Rat, flags []bool, bits int) (bool, bool) {
	if k := len(m.phases); k > 0 && m.phases[k-1].Kind != api.PMove {
		m.index++
	}
	div, big := m.Machine.Step(in, flags, bits)
	m.put(api.PStep)
	return div, big
}

func (m *recorder) Deriv() {
	m.Machine.Deriv()
	m.put(api.PDeriv)
}

func (m *recorder) Cross(bits int) ([]api.Line, bool, bool) {
	l, div, big := m.Machine.Cross(bits)
	m.put(api.PCross)
	return l, div, big
}

func (m *recorder) Move(dt api.Rat, bits int) bool {
	if !m.Machine.Move(dt, bits) {
		return false
	}
	b := bigOf(m.at)
	m.at, m.index = rat(b.Add(b, bigOf(dt)).RatString()), 0
	m.put(api.PMove)
	return true
}

func TestRandomLogs(t *testing.T) {
	// 21.2: the phases are the calls of a machine that runs as chapter 12 tells.
	n := tally{}
	for seed := range int64(6000) {
		r := dice(seed)
		c, ins := anyCode(r)
		s := sample.Script(r.Intn, ins)
		m, err := exec.New(c)
		if err != api.OK {
			t.Fatal(err)
		}
		w := &recorder{Machine: m, at: rat("0")}
		if meaning.Run(w, ins, s, most).End == 0 {
			continue
		}
		if got, want := logged(c, ins, s), phasesText(w.phases); got != want {
			t.Fatalf("%v\n%v\ngot\n%s\nwant\n%s", c, s, got, want)
		}
		for _, p := range w.phases {
			n.note("kind "+strconv.Itoa(p.Kind), true)
			n.note("index", p.Index > 0)
			n.note("memories", len(p.Mems) > 0)
			n.note("lines", strings.Contains(linesText(p.Lines), "+"))
		}
	}
	n.least(t, 1000, "kind 1", "kind 2", "kind 3", "kind 4", "index", "memories", "lines")
}

// between asks of a phase, and of the one ahead of it, what 21.3 says.
func (n tally) between(t *testing.T, a, b api.Phase) {
	t.Helper()
	later := bigOf(b.At).Cmp(bigOf(a.At)) > 0
	same := bigOf(b.At).Cmp(bigOf(a.At)) == 0
	kinds := [2]int{a.Kind, b.Kind}
	ok := false
	switch kinds {
	case [2]int{api.PStep, api.PDeriv}, [2]int{api.PDeriv, api.PCross}, [2]int{api.PMove, api.PStep}:
		ok = same && a.Index == b.Index
	case [2]int{api.PCross, api.PStep}:
		ok = same && b.Index == a.Index+1
	case [2]int{api.PCross, api.PMove}:
		ok = later && b.Index == 0
	}
	if !ok {
		t.Fatal("phases in no order:", phasesText([]api.Phase{a, b}))
	}
	if b.Kind == api.PStep {
		return
	}
	states := valuesText(a.Conts)
	if b.Kind == api.PMove {
		states = movedText(a, b)
		n.note("moved", states != valuesText(a.Conts))
	}
	if valuesText(a.Mems) != valuesText(b.Mems) || valuesText(a.Outs) != valuesText(b.Outs) || states != valuesText(b.Conts) {
		t.Fatal("changed:", phasesText([]api.Phase{a, b}))
	}
}

// movedText tells the states that come when those of a phase are moved to another one's time, by what they go on by.
func movedText(a, b api.Phase) string {
	var out []string
	dt := bigOf(b.At)
	dt.Sub(dt, bigOf(a.At))
	for k, v := range a.Conts {
		text := valueText(v)
		if l := a.Lines[k]; l.On {
			by := bigOf(l.S)
			text = by.Mul(by, dt).Add(by, bigOf(v.Num)).RatString()
		}
		out = append(out, text)
	}
	return strings.Join(out, " ")
}

// instants tells what phases say of a trace: of each instant when it was, and its outputs.
func instants(l []api.Phase) string {
	out := ""
	for _, p := range l {
		if p.Kind == api.PCross {
			out += spaced(atText(p.At, p.Index), valuesText(p.Outs)) + "; "
		}
	}
	return out
}

// changed asks that each change up to where a run ended is an event's time.
func (n tally) changed(t *testing.T, s api.Script, x api.Trace, phases []api.Phase) {
	t.Helper()
	for _, c := range s.Changes {
		is := func(p api.Phase) bool { return p.Index == 0 && bigOf(p.At).Cmp(bigOf(c.At)) == 0 }
		ahead := bigOf(c.At).Cmp(bigOf(x.At)) <= 0
		n.note("changes", ahead)
		n.note("changes behind a stop", !ahead)
		if ahead != slices.ContainsFunc(phases, is) {
			t.Fatal("no event:", numberText(c.At), phasesText(phases))
		}
	}
}

func TestPhases(t *testing.T) {
	// 21.3, P3, P4.
	n := tally{}
	for seed := range int64(6000) {
		r := dice(seed)
		c, ins := anyCode(r)
		s := sample.Script(r.Intn, ins)
		if meaning.Code(c, ins, s, most).End == 0 {
			continue
		}
		x, phases, err := sim.Log(c, ins, s)
		if err != api.OK {
			t.Fatal(err)
		}
		first, last := phases[0], phases[len(phases)-1]
		if first.Kind != api.PStep || first.Index != 0 || numberText(first.At) != "0" || last.Kind != api.PCross {
			t.Fatal(phasesText(phases))
		}
		for i := range phases[1:] {
			n.between(t, phases[i], phases[i+1])
		}
		// An instant that stops the run is in the log alone; then the trace ends there.
		told, all := strings.TrimSuffix(traceText(x), traceText(api.Trace{End: x.End, At: x.At, Index: x.Index})), instants(phases)
		if told != all {
			n.note("told nothing", true)
			rest, is := strings.CutPrefix(all, told)
			if !is || x.End != api.EndDiv && x.End != api.EndBig || strings.Count(rest, ";") != 1 || !strings.HasPrefix(rest, atText(x.At, x.Index)) {
				t.Fatal(told, all)
			}
		}
		if x.End != api.EndDone && atText(x.At, x.Index) != atText(last.At, last.Index) {
			t.Fatal("ended elsewhere:", traceText(x), phaseText(last))
		}
		n.changed(t, s, x, phases)
	}
	n.least(t, 300, "moved", "changes", "changes behind a stop", "told nothing")
}
