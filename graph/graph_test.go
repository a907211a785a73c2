package graph_test

import (
	"math"
	"math/rand"
	"slices"
	"testing"

	"foliot/graph"
)

func TestExamples(t *testing.T) {
	// 7.1, 7.3: the chapter's own.
	if l, ok := graph.Order([][]int{{1}, {2}, {}}); !ok || !slices.Equal(l, []int{2, 1, 0}) {
		t.Fatal(l, ok)
	}
	round := [][]int{{1}, {0}}
	if l, ok := graph.Order(round); ok || len(l) != 0 {
		t.Fatal(l, ok)
	}
	if c := graph.Cycle(round); !slices.Equal(c, []int{0, 1}) {
		t.Fatal(c)
	}
	if c := graph.Cycle([][]int{{}, {1}}); !slices.Equal(c, []int{1}) {
		t.Fatal(c)
	}
}

func TestOrder(t *testing.T) {
	// 7.1
	for _, c := range []struct {
		g    [][]int
		want []int
	}{
		{nil, nil},
		{[][]int{}, nil},
		{[][]int{nil}, []int{0}},
		{[][]int{{}, nil, {}}, []int{0, 1, 2}},
		{[][]int{{2}, {}, {}}, []int{1, 2, 0}},                // the least one that might stand next, not the least one that is needed
		{[][]int{{3}, {}, {}, {}, {0}}, []int{1, 2, 3, 0, 4}}, // 0 is ready late, and goes ahead of 4 then
		{[][]int{{}, {4}, {}, {1}, {}}, []int{0, 2, 4, 1, 3}},
		{[][]int{{}, {3}, {5}, {}, {}, {}}, []int{0, 3, 1, 4, 5, 2}}, // what turns ready goes ahead of what was ready
		{[][]int{{1, 1, 1}, {}}, []int{1, 0}},                        // twice counts once
		{[][]int{{2, 1, 2, 1}, {2, 2}, {}}, []int{2, 1, 0}},
		{[][]int{{-1, 2, math.MaxInt, math.MinInt}, {}}, []int{0, 1}}, // 2 is no place here
		{[][]int{{-1, 1, 2}, {2, 2}}, []int{1, 0}},
	} {
		if l, ok := graph.Order(c.g); !ok || !slices.Equal(l, c.want) {
			t.Errorf("Order(%v): got %v, %v, want %v", c.g, l, ok, c.want)
		}
	}
	for _, g := range [][][]int{{{0}}, {{}, {1}}, {{1}, {2}, {0}}, {{}, {}, {3}, {2}}, {{1, -1}, {0, 2}}, {{1}, {1}}, {{}, {0, 2}, {1}, {0}}} {
		if l, ok := graph.Order(g); ok || len(l) != 0 {
			t.Errorf("Order(%v): got %v, %v, want none", g, l, ok)
		}
	}
}

func TestReach(t *testing.T) {
	// 7.2
	for _, c := range []struct {
		g    [][]int
		i    int
		want []bool
	}{
		{[][]int{{}}, 0, []bool{false}}, // no step leads to itself
		{[][]int{{0}}, 0, []bool{true}},
		{[][]int{{1}, {0}}, 0, []bool{true, true}}, // two steps do
		{[][]int{{1}, {2}, {}}, 0, []bool{false, true, true}},
		{[][]int{{1}, {2}, {}}, 1, []bool{false, false, true}}, // not who needs it
		{[][]int{{1}, {2}, {}}, 2, []bool{false, false, false}},
		{[][]int{{1}, {2}, {1}}, 0, []bool{false, true, true}},
		{[][]int{{1}, {2}, {1}}, 1, []bool{false, true, true}},
		{[][]int{{2, -1, 3}, {0}, {-2}}, 0, []bool{false, false, true}},
		{[][]int{{2, 2, 1, 2}, {}, {0}, {}}, 0, []bool{true, true, true, false}},
	} {
		if r := graph.Reach(c.g, c.i); !slices.Equal(r, c.want) {
			t.Errorf("Reach(%v, %d): got %v, want %v", c.g, c.i, r, c.want)
		}
	}
	for _, g := range [][][]int{nil, {}, {{}}, {{0}}, {{1}, {0}}, {{-1}, {2}}} {
		noPlaces(t, g)
	}
	if r := graph.Reach(nil, 0); len(r) != 0 {
		t.Error(r)
	}
}

func TestCycle(t *testing.T) {
	// 7.3
	for _, c := range []struct {
		g    [][]int
		want []int
	}{
		{nil, nil},
		{[][]int{{}}, nil},
		{[][]int{{1}, {2}, {}}, nil},
		{[][]int{{-1, 1}}, nil},
		{[][]int{{0}}, []int{0}},
		{[][]int{{1}, {2}, {1}}, []int{1, 2}},                           // 0 leads to a cycle, and lies on none
		{[][]int{{}, {0, 2}, {1}}, []int{1, 2}},                         // a cycle leads to 0
		{[][]int{{3}, {0, 2}, {1}, {4}, {3}}, []int{1, 2}},              // 0 lies between two cycles
		{[][]int{{}, {2}, {3}, {1}, {4}}, []int{1, 2, 3}},               // of the least place, not the shortest one
		{[][]int{{1, 0}, {0}}, []int{0}},                                // the shortest one, not the first one
		{[][]int{{1, 2}, {2}, {0}}, []int{0, 2}},                        // the same
		{[][]int{{2, 1}, {0}, {0}}, []int{0, 1}},                        // the least one, whatever stands first
		{[][]int{{3, 1}, {4, 3}, {0}, {2}, {2}}, []int{0, 3, 2}},        // shorter goes ahead of less
		{[][]int{{2, 1}, {4, 3}, {3}, {0}, {0}}, []int{0, 1, 3}},        // the least one at the second place
		{[][]int{{2, 1}, {5}, {3, 4}, {0}, {0}, {}}, []int{0, 2, 3}},    // 1 leads nowhere
		{[][]int{{4, 3}, {0}, {0}, {2}, {1}}, []int{0, 3, 2}},           // the first one that differs counts
		{[][]int{{1}, {4, 2, 3, -1, 9}, {0}, {0}, {0}}, []int{0, 1, 2}}, // in the midst
		{[][]int{{1, 1, 1}, {7, 0, 0}}, []int{0, 1}},
	} {
		if got := graph.Cycle(c.g); !slices.Equal(got, c.want) {
			t.Errorf("Cycle(%v): got %v, want %v", c.g, got, c.want)
		}
	}
}

func TestAllSmallGraphs(t *testing.T) {
	// 7.1 to 7.3: every graph of at most four places.
	for n := range 5 {
		for bits := range 1 << (n * n) {
			g := make([][]int, n)
			for k := range n * n {
				if bits>>k&1 == 1 {
					g[k/n] = append(g[k/n], k%n)
				}
			}
			holds(t, g)
			want, wantOK := firstOrder(matrix(g), nil)
			if l, ok := graph.Order(g); ok != wantOK || !slices.Equal(l, want) {
				t.Fatalf("Order(%v): got %v, %v, want %v, %v", g, l, ok, want, wantOK)
			}
		}
	}
}

func TestRandomGraphs(t *testing.T) {
	// 7.1 to 7.3: greater ones, with few needs and with many, and such as have an order.
	r := rand.New(rand.NewSource(7))
	for range 3000 {
		n := 1 + r.Intn(12)
		g := random(r, n, []float64{0.05, 0.1, 0.2, 0.5}[r.Intn(4)])
		holds(t, g)
		holds(t, untidy(r, g))
		places := r.Perm(n)
		for i := range g { // needs of places that stand further ahead in that row alone
			g[i] = slices.DeleteFunc(g[i], func(j int) bool { return places[j] >= places[i] })
		}
		holds(t, g)
		holds(t, untidy(r, g))
	}
}

func TestLongCycles(t *testing.T) {
	// 7.3: a way round over rows of places, of which each needs some of the next row: many ways are as short as one another.
	r := rand.New(rand.NewSource(8))
	for range 500 {
		names := r.Perm(16)
		g := make([][]int, 16)
		for i := range 15 {
			next := (i/3 + 1) % 5 * 3
			for k := range 3 {
				if r.Intn(3) > 0 {
					g[names[i]] = append(g[names[i]], names[next+k])
				}
			}
		}
		holds(t, untidy(r, g))
	}
}
