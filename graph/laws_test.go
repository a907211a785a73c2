package graph_test

import (
	"math/rand"
	"reflect"
	"slices"
	"testing"

	"foliot/graph"
)

func TestOrderOrCycle(t *testing.T) {
	// 7.4, at graphs that are too great for the tests' own answers.
	r := rand.New(rand.NewSource(9))
	for range 300 {
		n := 1 + r.Intn(200)
		g := random(r, n, []float64{0.2, 1, 2, 4}[r.Intn(4)]/float64(n))
		if r.Intn(2) == 0 {
			for i := range g {
				g[i] = slices.DeleteFunc(g[i], func(j int) bool { return j <= i })
			}
		}
		lawful(t, untidy(r, g))
	}
}

func lawful(t *testing.T, g [][]int) {
	t.Helper()
	l, ok := graph.Order(g)
	c := graph.Cycle(g)
	if ok != (len(c) == 0) || !ok && len(l) > 0 {
		t.Fatalf("%v: the order %v, %v, and the cycle %v", g, l, ok, c)
	}
	if ok {
		behind(t, g, l)
		return
	}
	for k, i := range c {
		if !slices.Contains(g[i], c[(k+1)%len(c)]) {
			t.Fatalf("%v: %v is no cycle", g, c)
		}
	}
	for i := range g {
		onCycle := graph.Reach(g, i)[i]
		if onCycle && i < c[0] || !onCycle && slices.Contains(c, i) {
			t.Fatalf("%v: %v, but %d lies on a cycle: %v", g, c, i, onCycle)
		}
	}
}

// behind holds that a row has each place once, behind what it needs.
func behind(t *testing.T, g [][]int, l []int) {
	t.Helper()
	at := map[int]int{}
	for k, i := range l {
		at[i] = k
	}
	if len(l) != len(g) || len(at) != len(g) {
		t.Fatalf("an order of %d, %d of them different, of %d places", len(l), len(at), len(g))
	}
	for i, needs := range g {
		for _, j := range needs {
			if j >= 0 && j < len(g) && at[j] >= at[i] {
				t.Fatalf("%d needs %d, and stands ahead of it", i, j)
			}
		}
	}
}

func TestGreatGraphs(t *testing.T) {
	// R1: what is deep, wide or has many cycles ends too, and soon.
	const n = 200000
	up, down, round, wide := make([][]int, n), make([][]int, n), make([][]int, n), make([][]int, n)
	for i := range n {
		up[i], down[i] = []int{i + 1}, []int{i - 1} // the last one needs what is no place
		round[i] = []int{(i + 1) % n, i - 1}
		wide[0] = append(wide[0], n-1-i)
		wide[i] = append(wide[i], 0)
	}
	falling := rising(n)
	slices.Reverse(falling)
	for _, c := range []struct {
		g           [][]int
		order, ring []int
	}{
		{up, falling, nil}, {down, rising(n), nil}, {round, nil, []int{0, 1}}, {wide, nil, []int{0}}, {loop(n), nil, rising(n)},
	} {
		l, ok := graph.Order(c.g)
		if ok != (len(c.order) > 0) || !slices.Equal(l, c.order) {
			t.Fatal("another order")
		}
		if !slices.Equal(graph.Cycle(c.g), c.ring) {
			t.Fatal("another cycle")
		}
	}
	if r := graph.Reach(up, 0); r[0] || slices.Contains(r[1:], false) {
		t.Fatal("a way of many steps is none")
	}
	if r := graph.Reach(loop(n), n-1); slices.Contains(r, false) {
		t.Fatal("a way round is none")
	}
}

// loop is one cycle through all places.
func loop(n int) [][]int {
	g := make([][]int, n)
	for i := range g {
		g[i] = []int{(i + 1) % n}
	}
	return g
}

func TestBetweenCycles(t *testing.T) {
	// R1: many places that lead to a cycle, and are led to from one, and lie on none.
	const n = 100000
	g := make([][]int, 3*n)
	for i := range n {
		g[i] = []int{n}
		g[n+i] = []int{n + (i+1)%n}
		g[2*n+i] = []int{2*n + (i+1)%n, i}
	}
	c := graph.Cycle(g)
	if len(c) != n || c[0] != n || c[n-1] != 2*n-1 {
		t.Fatal(len(c))
	}
	if l, ok := graph.Order(g); ok || len(l) > 0 {
		t.Fatal(len(l), ok)
	}
}

// guarded copies a graph so that things that are not its own stand behind the ends of its rows, and of the row of them.
func guarded(g [][]int) [][]int {
	out := make([][]int, 0, len(g)+3)
	for _, needs := range g {
		row := append(append(make([]int, 0, len(needs)+3), needs...), 0, 0, 0)
		out = append(out, row[:len(needs)])
	}
	out = append(out, []int{0}, []int{1}, []int{0, 1})
	return out[:len(g)]
}

// whole tells a graph with what lies behind its ends.
func whole(g [][]int) [][]int {
	var out [][]int
	for _, needs := range g[:cap(g)] {
		out = append(out, slices.Clone(needs[:cap(needs)]))
	}
	return out
}

func TestMemory(t *testing.T) {
	// R4, R5: nothing that is handed in changes or counts behind its end; answers are new memory, and come again.
	r := rand.New(rand.NewSource(10))
	for range 500 {
		n := 1 + r.Intn(8)
		g := untidy(r, random(r, n, 0.2))
		kept := guarded(g)
		before := whole(kept)
		holds(t, kept)
		first, ok := graph.Order(kept)
		ring, reach := graph.Cycle(kept), graph.Reach(kept, 0)
		for k := range first {
			first[k] = -7
		}
		for k := range ring {
			ring[k] = -7
		}
		for k := range reach {
			reach[k] = !reach[k]
		}
		if !reflect.DeepEqual(before, whole(kept)) {
			t.Fatalf("%v was changed to %v", before, whole(kept))
		}
		holds(t, kept)
		if _, again := graph.Order(g); again != ok {
			t.Fatalf("Order(%v): %v, then %v", g, ok, again)
		}
	}
}
