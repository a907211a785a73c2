package sample

import (
	"sort"

	"foliot/api"
	"foliot/ratio"
)

// Script makes one that is right for these inputs (12.3), whose numbers are small.
func Script(dice func(n int) int, ins []string) api.Script {
	m := newMaker(dice, 0)
	s := api.Script{Horizon: m.small(0), Cascade: dice(8), Bits: one(m, 100, 100, 30, api.MaxBits, dice(12)+1)}
	for range dice(12) {
		at := m.small(0)
		if len(ins) > 0 && ratio.Cmp(at, s.Horizon) <= 0 {
			s.Changes = append(s.Changes, api.Change{At: at, Input: ins[dice(len(ins))], Value: m.small(-5)})
		}
	}
	sort.SliceStable(s.Changes, func(i, j int) bool { return ratio.Cmp(s.Changes[i].At, s.Changes[j].At) < 0 })
	return s
}

// small makes a number that is not below this.
func (m *maker) small(least int) api.Rat {
	n, _ := ratio.Div(ratio.Of(int64(least+m.dice(13))), ratio.Of(int64(1+m.dice(3))))
	return n
}
