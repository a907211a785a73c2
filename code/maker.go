package code

import (
	"slices"

	"foliot/api"
)

// maker makes instructions of a flat program whose variables lie in these slots.
type maker struct {
	api.Flat
	slots []int
}

// slot is where a variable lies; -1, if it is none.
func (m *maker) slot(v int) int {
	if v < 0 {
		return -1
	}
	return m.slots[v]
}

// turned tells what each number of a row is turned into.
func turned(into func(i int) int, row ...int) []int {
	var out []int
	for _, i := range row {
		out = append(out, into(i))
	}
	return out
}

// copied is the same value, its number in memory of its own.
func copied(v api.Value) api.Value {
	v.Num.Num.Mag, v.Num.Den = slices.Clone(v.Num.Num.Mag), slices.Clone(v.Num.Den)
	return v
}
