package sim

import (
	"slices"

	"foliot/api"
	"foliot/solve"
)

// end ends the run at this instant: there is no next one.
func (r *run) end(how int) bool {
	r.trace.End, r.trace.At, r.trace.Index = how, r.now(), r.index
	return false
}

// change lets inputs change, whose time it is.
func (r *run) change() {
	for ; r.next < len(r.script.Changes); r.next++ {
		c := r.script.Changes[r.next]
		if isBelow(r.since(c.At).V) {
			return
		}
		r.in[slices.Index(r.ins, c.Input)] = c.Value
	}
}

// instant does the three bodies; it tells what crossings ask, and what was wrong. What was wrong in Step keeps nothing from being done: an instant is all of it, and one that is too big in Step may yet divide by nought in Cross.
func (r *run) instant() ([]api.Line, bool, bool) {
	stepDiv, stepBig := r.machine.Step(r.in, r.passes, r.script.Bits)
	r.note(api.PStep)
	r.machine.Deriv()
	r.note(api.PDeriv)
	ups, crossDiv, crossBig := r.machine.Cross(r.script.Bits)
	r.note(api.PCross)
	return ups, stepDiv || crossDiv, stepBig || crossBig
}

// once does an instant, and goes on to the next one; false, if there is none.
func (r *run) once() bool {
	ups, div, big := r.instant()
	switch {
	case div:
		return r.end(api.EndDiv)
	case big:
		return r.end(api.EndBig)
	}
	r.trace.Entries = append(r.trace.Entries, api.Entry{At: r.now(), Index: r.index, Outs: r.machine.Outs()})
	jumped := r.jumped(ups)
	switch {
	case !r.machine.Again() && !slices.Contains(jumped, true):
		return r.toEvent(ups)
	case r.index == r.script.Cascade:
		return r.end(api.EndCascade)
	}
	r.index++
	r.ups, r.passes = ups, jumped
	return true
}

// jumped tells which ups jumped at this instant, behind which they ask this.
func (r *run) jumped(ups []api.Line) []bool {
	out := make([]bool, len(ups))
	for k, l := range ups {
		ahead := r.ups[k]
		out[k] = ahead.On && isBelow(ahead.V) && l.On && !isBelow(l.V)
	}
	return out
}

// toEvent goes on to the next event; false, if there is none.
func (r *run) toEvent(ups []api.Line) bool {
	lines := ups
	if r.next < len(r.script.Changes) {
		lines = append(lines, r.since(r.script.Changes[r.next].At))
	}
	dt, there := solve.Next(lines)
	horizon := r.script.Horizon
	if !there || isAbove(solve.At(r.since(horizon), dt)) {
		r.trace.End, r.trace.At = api.EndDone, solve.At(api.Line{On: true, V: horizon}, api.Rat{})
		return false
	}
	// (Where the clock alone does not move, nothing more is asked of the machine.)
	if !r.machine.Move(dt, r.script.Bits) || !r.clock.Move(dt, r.script.Bits) {
		return r.end(api.EndBig)
	}
	r.index = 0
	r.note(api.PMove)
	r.ups, r.passes = moved(ups, dt), solve.Passed(ups, dt)
	r.change()
	return true
}
