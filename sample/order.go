package sample

import "slices"

// Order makes one in which each stands behind what it needs, there being one: any, not the least.
func Order(dice func(n int) int, needs [][]int) []int {
	var out []int
	for len(out) < len(needs) {
		var ready []int
		for v, l := range needs {
			if !slices.Contains(out, v) && !slices.ContainsFunc(l, func(u int) bool { return !slices.Contains(out, u) }) {
				ready = append(ready, v)
			}
		}
		out = append(out, ready[dice(len(ready))])
	}
	return out
}
