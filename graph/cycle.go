package graph

import "slices"

// Cycle tells a cycle.
func Cycle(g [][]int) []int {
	neededBy := turned(g)
	rising := turned(neededBy)
	start := leastOnCycle(rising, neededBy)
	if !isPlace(g, start) {
		return nil
	}
	// Since needs rise, each place is found first on the least one of its shortest ways; so is the start, on the way back.
	from := unfound(g)
	spread(rising, start, from)
	var out []int
	for i := from[start]; i != start; i = from[i] {
		out = append(out, i)
	}
	out = append(out, start)
	slices.Reverse(out)
	return out
}

// leastOnCycle tells the least place that lies on a cycle; how many there are, if none does.
func leastOnCycle(g, neededBy [][]int) int {
	least := len(g)
	from := unfound(g)
	for _, i := range slices.Backward(byLeaving(g)) {
		if from[i] != nowhere {
			continue
		}
		// What leads to i, and is not led to by it, is marked already, since the walk left it, or one on a cycle with it, later than i. So what is found now lies on a cycle with i; i itself is found, if there is one.
		for _, j := range spread(neededBy, i, from) {
			least = min(least, j)
		}
		from[i] = i // also if it lies on none: it has been gone through
	}
	return least
}

// nowhere is from where a place came that no way has led to.
const nowhere = -1

func unfound(g [][]int) []int {
	out := make([]int, len(g))
	for i := range out {
		out[i] = nowhere
	}
	return out
}

// spread goes from a place all ways over places that were not found before, step by step, and notes of each that it finds from where it came there. It tells what it found; the start is found only by a way back to it.
func spread(g [][]int, start int, from []int) []int {
	row := []int{start}
	for n := 0; n < len(row); n++ {
		for _, j := range g[row[n]] {
			if isPlace(g, j) && from[j] == nowhere {
				from[j] = row[n]
				row = append(row, j)
			}
		}
	}
	return row[1:]
}

// byLeaving tells the places in the order in which a walk that goes deep first leaves them. The way on which it stands is a row, since a graph may be deeper than calls should go.
func byLeaving(g [][]int) []int {
	var out, way []int
	asked := make([]int, len(g)) // how many of its needs the walk has asked a place for
	entered := make([]bool, len(g))
	enter := func(i int) {
		if !entered[i] {
			entered[i] = true
			way = append(way, i)
		}
	}
	for i := range g {
		enter(i)
		for len(way) > 0 {
			top := way[len(way)-1]
			if asked[top] < len(g[top]) {
				asked[top]++
				enter(g[top][asked[top]-1])
				continue
			}
			way = way[:len(way)-1]
			out = append(out, top)
		}
	}
	return out
}
