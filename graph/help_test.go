package graph_test

import (
	"math"
	"math/rand"
	"slices"
	"testing"

	"foliot/graph"
)

// The tests hold the package against the words of the chapter, asked one by one of all that might be an answer.

// matrix tells which places need which, by the words of the chapter.
func matrix(g [][]int) [][]bool {
	out := make([][]bool, len(g))
	for i, needs := range g {
		out[i] = make([]bool, len(g))
		for j := range g {
			out[i][j] = slices.Contains(needs, j)
		}
	}
	return out
}

// closure tells where ways of one step or more lead.
func closure(m [][]bool) [][]bool {
	out := make([][]bool, len(m))
	for i := range m {
		out[i] = slices.Clone(m[i])
	}
	for k := range m {
		for i := range m {
			for j := range m {
				out[i][j] = out[i][j] || out[i][k] && out[k][j]
			}
		}
	}
	return out
}

// orderOf puts the least place next whose needs all stand ahead; none, if there is no order.
func orderOf(m [][]bool) ([]int, bool) {
	out := []int{}
	for len(out) < len(m) {
		next := slices.IndexFunc(rising(len(m)), func(i int) bool {
			return !slices.Contains(out, i) && !slices.ContainsFunc(rising(len(m)), func(j int) bool { return m[i][j] && !slices.Contains(out, j) })
		})
		if next < 0 {
			return nil, false
		}
		out = append(out, next)
	}
	return out, true
}

// firstOrder is the least of all rows of the places, place by place, in which each stands behind what it needs: another way to say which order is asked for.
func firstOrder(m [][]bool, ahead []int) ([]int, bool) {
	if len(ahead) == len(m) {
		return slices.Clone(ahead), true
	}
	for i := range m {
		if !slices.Contains(ahead, i) && !slices.ContainsFunc(rising(len(m)), func(j int) bool { return m[i][j] && !slices.Contains(ahead, j) }) {
			if out, ok := firstOrder(m, append(ahead, i)); ok {
				return out, true
			}
		}
	}
	return nil, false
}

// cycleOf goes through all ways from the least place on a cycle, the shorter ones first, those of one length rising.
func cycleOf(m [][]bool) []int {
	c := closure(m)
	start := slices.IndexFunc(rising(len(m)), func(i int) bool { return c[i][i] })
	if start < 0 {
		return nil
	}
	for n := 1; ; n++ {
		if out := wayBack(m, []int{start}, n); out != nil {
			return out
		}
	}
}

// wayBack tells the least way of so many places that begins so, and whose last one needs the first.
func wayBack(m [][]bool, way []int, n int) []int {
	last := way[len(way)-1]
	if len(way) == n {
		if m[last][way[0]] {
			return slices.Clone(way)
		}
		return nil
	}
	for j := range m {
		if m[last][j] {
			if out := wayBack(m, append(way, j), n); out != nil {
				return out
			}
		}
	}
	return nil
}

func rising(n int) []int {
	out := make([]int, n)
	for i := range out {
		out[i] = i
	}
	return out
}

// holds holds all calls against the words, on one graph.
func holds(t *testing.T, g [][]int) {
	t.Helper()
	m := matrix(g)
	wantOrder, wantOK := orderOf(m)
	if l, ok := graph.Order(g); ok != wantOK || !slices.Equal(l, wantOrder) {
		t.Fatalf("Order(%v): got %v, %v, want %v, %v", g, l, ok, wantOrder, wantOK)
	}
	if c, want := graph.Cycle(g), cycleOf(m); !slices.Equal(c, want) {
		t.Fatalf("Cycle(%v): got %v, want %v", g, c, want)
	}
	for i, want := range closure(m) {
		if r := graph.Reach(g, i); !slices.Equal(r, want) {
			t.Fatalf("Reach(%v, %d): got %v, want %v", g, i, r, want)
		}
	}
	noPlaces(t, g)
}

// noPlaces asks Reach of what is no place.
func noPlaces(t *testing.T, g [][]int) {
	t.Helper()
	for _, i := range []int{-1, -2, len(g), len(g) + 1, math.MinInt, math.MaxInt} {
		if r := graph.Reach(g, i); len(r) != 0 {
			t.Fatalf("Reach(%v, %d): got %v, want none", g, i, r)
		}
	}
}

// random is a graph in which a place needs another one as often as share says; needs rise, each once.
func random(r *rand.Rand, n int, share float64) [][]int {
	g := make([][]int, n)
	for i := range g {
		for j := range n {
			if r.Float64() < share {
				g[i] = append(g[i], j)
			}
		}
	}
	return g
}

// untidy is the same graph by the words of the chapter: needs in another order, some twice, and what is no place among them.
func untidy(r *rand.Rand, g [][]int) [][]int {
	strange := []int{-1, -2, math.MinInt, math.MinInt + 1, len(g), len(g) + 1, math.MaxInt, math.MaxInt - 1, 1 << 32, -1 << 32}
	out := make([][]int, len(g))
	for i, needs := range g {
		l := slices.Clone(needs)
		for _, j := range needs {
			for range r.Intn(3) {
				l = append(l, j)
			}
		}
		for range r.Intn(4) {
			l = append(l, strange[r.Intn(len(strange))])
		}
		r.Shuffle(len(l), func(a, b int) { l[a], l[b] = l[b], l[a] })
		out[i] = l
	}
	return out
}
