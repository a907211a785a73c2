package meaning

import (
	"foliot/api"
	"foliot/ratio"
)

// line is what an up asks, and by what that goes on.
type line struct{ v, s api.Value }

func (l line) on() bool { return l.v.Kind == api.VNum && l.s.Kind == api.VNum }

func (l line) at(dt api.Rat) api.Rat { return ratio.Add(l.v.Num, ratio.Mul(l.s.Num, dt)) }

// told is what an instant tells: outputs, whether it asks for one more, and what the ups that were active ask.
type told[K comparable] struct {
	outs  []api.Value
	again bool
	lines map[K]line
}

// machine does instants, the ups that pass being told, and lets states go on between them. K tells ups apart.
type machine[K comparable] interface {
	instant(in []api.Rat, passes map[K]struct{}, f *faults) told[K]
	move(dt api.Rat, bits int) bool
}

// runner is where a run is.
type runner[K comparable] struct {
	machine[K]
	script api.Script
	ins    []string
	in     []api.Rat
	next   int // the next change
	now    api.Rat
	index  int
	ahead  map[K]api.Rat // what the ups asked ahead of this instant, those that did
	passes map[K]struct{}
	trace  api.Trace
}

// run tells the run's trace, or, if more instants than these come, those, and an End of 0.
func run[K comparable](m machine[K], ins []string, s api.Script, most int) api.Trace {
	r := &runner[K]{machine: m, script: s, ins: ins, now: ratio.Of(0)}
	for range ins {
		r.in = append(r.in, ratio.Of(0))
	}
	r.changes()
	for range most {
		if r.once() {
			break
		}
	}
	return r.trace
}

// changes lets inputs change, whose time it is; of two of one name the first one.
func (r *runner[K]) changes() {
	for r.next < len(r.script.Changes) && ratio.Cmp(r.script.Changes[r.next].At, r.now) <= 0 {
		c := r.script.Changes[r.next]
		for i, name := range r.ins {
			if name == c.Input {
				r.in[i] = c.Value
				break
			}
		}
		r.next++
	}
}

func (r *runner[K]) ends(how int) bool {
	r.trace.End, r.trace.At, r.trace.Index = how, r.now, r.index
	return true
}

// once does an instant, and goes to the next one; it tells whether that was the last one.
func (r *runner[K]) once() bool {
	f := &faults{bits: r.script.Bits}
	t := r.instant(r.in, r.passes, f)
	switch {
	case f.div:
		return r.ends(api.EndDiv)
	case f.big:
		return r.ends(api.EndBig)
	}
	r.trace.Entries = append(r.trace.Entries, api.Entry{At: r.now, Index: r.index, Outs: t.outs})
	jumps := r.passed(t.lines, ratio.Of(0))
	r.ahead = map[K]api.Rat{}
	if !t.again && len(jumps) == 0 {
		return r.goes(t.lines)
	}
	if r.index == r.script.Cascade {
		return r.ends(api.EndCascade)
	}
	r.index++
	r.passes = jumps
	for k, l := range t.lines {
		if l.on() {
			r.ahead[k] = l.v.Num
		}
	}
	return false
}

// passed are the ups that were below 0, as far as they were asked, and are not, so much later.
func (r *runner[K]) passed(lines map[K]line, dt api.Rat) map[K]struct{} {
	out := map[K]struct{}{}
	for k, l := range lines {
		v, asked := r.ahead[k]
		if asked && l.on() && ratio.Sign(v) < 0 && ratio.Sign(l.at(dt)) >= 0 {
			out[k] = struct{}{}
		}
	}
	return out
}

// goes goes on to the next event.
func (r *runner[K]) goes(lines map[K]line) bool {
	var at api.Rat
	there := false
	least := func(t api.Rat) {
		if !there || ratio.Cmp(t, at) < 0 {
			at, there = t, true
		}
	}
	if r.next < len(r.script.Changes) {
		least(r.script.Changes[r.next].At)
	}
	for _, l := range lines {
		if l.on() && ratio.Sign(l.v.Num) < 0 && ratio.Sign(l.s.Num) > 0 {
			t, _ := ratio.Div(ratio.Neg(l.v.Num), l.s.Num)
			least(ratio.Add(r.now, t))
		}
	}
	if !there || ratio.Cmp(at, r.script.Horizon) > 0 {
		r.now, r.index = r.script.Horizon, 0
		return r.ends(api.EndDone)
	}
	return r.goesTo(at, lines)
}

func (r *runner[K]) goesTo(at api.Rat, lines map[K]line) bool {
	dt := ratio.Sub(at, r.now)
	if ratio.Bits(at) > r.script.Bits || !r.move(dt, r.script.Bits) {
		return r.ends(api.EndBig)
	}
	for k, l := range lines {
		if l.on() {
			r.ahead[k] = l.v.Num
		}
	}
	r.passes = r.passed(lines, dt)
	for k, l := range lines {
		if l.on() {
			r.ahead[k] = l.at(dt)
		}
	}
	r.now, r.index = at, 0
	r.changes()
	return false
}
