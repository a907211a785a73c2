package meaning

import "foliot/api"

// Bodies is what does the bodies of object code, one at a call, as a machine of chapter 17 does.
type Bodies interface {
	Step(in []api.Rat, flags []bool, bits int) (bool, bool)
	Deriv()
	Cross(bits int) ([]api.Line, bool, bool)
	Move(dt api.Rat, bits int) bool
	Outs() []api.Value
	Again() bool
}

// Run tells what a machine with these inputs, from its beginning on, does by a right script (12.2), up to so many instants: if more come, those, and an End of 0.
func Run(m Bodies, ins []string, s api.Script, most int) api.Trace {
	return run[int](bodies{m}, ins, s, most)
}

// bodies does instants by a machine's calls.
type bodies struct{ Bodies }

func (b bodies) instant(in []api.Rat, passes map[int]struct{}, f *faults) told[int] {
	div, big := b.Step(in, flagsOf(passes), f.bits)
	b.Deriv()
	asked, crossDiv, crossBig := b.Cross(f.bits)
	f.div, f.big = div || crossDiv, big || crossBig
	t := told[int]{outs: b.Outs(), again: b.Again(), lines: map[int]line{}}
	for k, l := range asked {
		if l.On {
			t.lines[k] = line{api.Value{Kind: api.VNum, Num: l.V}, api.Value{Kind: api.VNum, Num: l.S}}
		}
	}
	return t
}

// flagsOf are the flags of crossings, up to the last one that passes.
func flagsOf(passes map[int]struct{}) []bool {
	last := -1
	for k := range passes {
		last = max(last, k)
	}
	out := make([]bool, last+1)
	for k := range passes {
		out[k] = true
	}
	return out
}

func (b bodies) move(dt api.Rat, bits int) bool { return b.Move(dt, bits) }
