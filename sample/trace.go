package sample

import (
	"foliot/api"
	"foliot/ratio"
)

// Trace makes one that is right, as of a run of a main with so many outputs: time does not fall, an event's indices count on, numbers are small. Each output is mostly of one kind.
func Trace(dice func(n int) int, outs int) api.Trace {
	m := newMaker(dice, 0)
	mostly := make([]int, outs)
	for i := range mostly {
		mostly[i] = one(m, api.VNum, api.VNum, api.VBool, api.VCtor)
	}
	t := api.Trace{At: ratio.Of(0), End: one(m, api.EndDone, api.EndDone, api.EndDiv, api.EndCascade, api.EndBig)}
	for range dice(10) {
		e := api.Entry{At: t.At, Index: t.Index}
		for _, kind := range mostly {
			e.Outs = append(e.Outs, m.output(kind))
		}
		t.Entries = append(t.Entries, e)
		t.Index++
		if m.chance(2) {
			t.At, t.Index = ratio.Add(t.At, m.small(1)), 0
		}
	}
	if t.End == api.EndDone {
		t.Index = 0
	}
	return t
}

// output makes a value, mostly of this kind.
func (m *maker) output(kind int) api.Value {
	if m.chance(8) {
		return m.value()
	}
	switch kind {
	case api.VBool:
		return api.Value{Kind: kind, Num: ratio.Of(int64(m.dice(2)))}
	case api.VCtor:
		return api.Value{Kind: kind, Name: numbered("S", m.dice(2))}
	}
	return api.Value{Kind: kind, Num: m.small(-4)}
}
