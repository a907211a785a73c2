package sim

import (
	"foliot/api"
	"foliot/exec"
	"foliot/solve"
)

// unit is 1, or -1.
func unit(neg bool) api.Rat {
	return api.Rat{Num: api.Int{Neg: neg, Mag: []uint32{1}}, Den: []uint32{1}}
}

// newClock makes a machine with one state, the time: it goes on by 1 from 0, and does not go to a time of too many bits.
func newClock() *exec.Machine {
	m, _ := exec.New(api.Code{
		Slots: 1,
		Conts: []api.Value{{Kind: api.VNum}},
		Step:  []api.Ins{{Op: "lit", Lit: api.Value{Kind: api.VNum, Num: unit(false)}, Guard: -1}},
		Deriv: []api.Ins{{Op: "slope", Args: []int{-1, 0}, Guard: -1}},
	})
	m.Step(nil, nil, api.MaxBits)
	m.Deriv()
	return m
}

// now tells the time, in new memory.
func (r *run) now() api.Rat { return r.clock.Conts()[0].Num }

// since is a line that is the time since a time: it passes then.
func (r *run) since(at api.Rat) api.Line {
	v := solve.At(api.Line{On: true, V: r.now(), S: at}, unit(true))
	return api.Line{On: true, V: v, S: unit(false)}
}

// isBelow and isAbove tell on which side of 0 a number is that is as it is told: 0 has no sign.
func isBelow(n api.Rat) bool { return n.Num.Neg }
func isAbove(n api.Rat) bool { return !n.Num.Neg && len(n.Num.Mag) > 0 }

// moved are lines so much later, as they are then.
func moved(lines []api.Line, dt api.Rat) []api.Line {
	out := make([]api.Line, len(lines))
	for k, l := range lines {
		out[k] = api.Line{On: l.On, V: solve.At(l, dt), S: l.S}
	}
	return out
}
