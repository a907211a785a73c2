package plan_test

import (
	"math"
	"math/rand"
	"slices"
	"testing"

	"foliot/api"
	"foliot/cause"
	"foliot/plan"
	"foliot/sample"
)

// right asks whether a plan is right.
func right(t *testing.T, what string, want bool, f api.Flat, p api.Plan) {
	t.Helper()
	if got := plan.Right(f, p); got != want {
		t.Errorf("%s: %v: got %v", what, p, got)
	}
}

// twice is a flat program of two rows of two, 0 and 2, 1 and 3, and an output 4 that needs both.
func twice() api.Flat {
	return flatOf([]int{4}, eq(4, "+", 2, 3), eq(1, "in"), eq(3, "neg", 1), eq(0, "in"), eq(2, "neg", 0))
}

func TestRight(t *testing.T) {
	// 14.2: plans that layer 14 itself would not make are right, too.
	f := twice()
	for what, p := range map[string]api.Plan{
		"as planned":         {Order: []int{0, 1, 2, 3, 4}, Slot: []int{0, 1, 2, 0, 1}, Slots: 3},
		"other slots":        {Order: []int{0, 1, 2, 3, 4}, Slot: []int{2, 0, 1, 2, 0}, Slots: 3},
		"slots of their own": {Order: []int{0, 1, 2, 3, 4}, Slot: []int{4, 3, 2, 1, 0}, Slots: 5},
		"slots left over":    {Order: []int{0, 1, 2, 3, 4}, Slot: []int{0, 1, 2, 0, 1}, Slots: math.MaxInt},
		"numbers left out":   {Order: []int{0, 1, 2, 3, 4}, Slot: []int{7, math.MaxInt - 1, 70, 7, math.MaxInt - 1}, Slots: math.MaxInt},
		"another order":      {Order: []int{1, 3, 0, 2, 4}, Slot: []int{0, 0, 2, 1, 0}, Slots: 3},
		"yet another one":    {Order: []int{1, 0, 3, 2, 4}, Slot: []int{0, 1, 1, 2, 0}, Slots: 3},
	} {
		right(t, what, true, f, p)
	}
}

func TestNotRight(t *testing.T) {
	f := twice()
	good := api.Plan{Order: []int{0, 1, 2, 3, 4}, Slot: []int{0, 1, 2, 0, 1}, Slots: 3}
	for what, p := range map[string]api.Plan{
		"nothing": {},
		// 14.2: Order has each variable, and each once.
		"one less":    {Order: []int{0, 1, 2, 3}, Slot: good.Slot, Slots: 3},
		"no order":    {Slot: good.Slot, Slots: 3},
		"one more":    {Order: []int{0, 1, 2, 3, 4, 4}, Slot: good.Slot, Slots: 3},
		"one again":   {Order: []int{0, 1, 2, 3, 3}, Slot: good.Slot, Slots: 3},
		"none behind": {Order: []int{0, 1, 2, 3, 5}, Slot: good.Slot, Slots: 3},
		"none ahead":  {Order: []int{-1, 0, 1, 2, 3, 4}, Slot: good.Slot, Slots: 3},
		"far off":     {Order: []int{0, 1, 2, 3, math.MaxInt}, Slot: good.Slot, Slots: 3},
		"below":       {Order: []int{0, 1, 2, 3, math.MinInt}, Slot: good.Slot, Slots: 3},
		// Each stands behind what it needs.
		"ahead":      {Order: []int{0, 2, 3, 1, 4}, Slot: []int{0, 1, 2, 3, 4}, Slots: 5},
		"at the end": {Order: []int{0, 1, 2, 4, 3}, Slot: []int{0, 1, 2, 3, 4}, Slots: 5},
		"turned":     {Order: []int{4, 3, 2, 1, 0}, Slot: []int{0, 1, 2, 3, 4}, Slots: 5},
		// Each has a slot, from 0 to Slots - 1.
		"a slot less":    {Order: good.Order, Slot: []int{0, 1, 2, 0}, Slots: 3},
		"no slot":        {Order: good.Order, Slots: 3},
		"a slot more":    {Order: good.Order, Slot: []int{0, 1, 2, 0, 1, 0}, Slots: 3},
		"below 0":        {Order: good.Order, Slot: []int{0, -1, 2, 0, 1}, Slots: 3},
		"far below 0":    {Order: good.Order, Slot: []int{0, 1, 2, 0, math.MinInt}, Slots: 3},
		"behind the end": {Order: good.Order, Slot: []int{0, 1, 3, 0, 1}, Slots: 3},
		"too few slots":  {Order: good.Order, Slot: good.Slot, Slots: 2},
		"no slots":       {Order: good.Order, Slot: good.Slot},
		"less than none": {Order: good.Order, Slot: good.Slot, Slots: math.MinInt},
		// No two that live at one time lie in one.
		"at the place at which it is needed": {Order: good.Order, Slot: []int{0, 1, 0, 2, 1}, Slots: 3},
		"between":                            {Order: good.Order, Slot: []int{0, 0, 1, 2, 3}, Slots: 4},
		"an Arg and what it is for":          {Order: good.Order, Slot: []int{0, 1, 2, 0, 2}, Slots: 3},
		"by its own order alone":             {Order: []int{1, 0, 3, 2, 4}, Slot: []int{0, 1, 2, 0, 1}, Slots: 3},
	} {
		right(t, what, false, f, p)
	}
	right(t, "as it was", true, f, good)
	f.Outs = []int{4, 0} // it lives behind all now
	right(t, "an output", false, f, good)
}

func TestRightOfWhatIsNotGood(t *testing.T) {
	// 14.2: f is good; without variables nothing is to be asked of a plan but that it has none.
	right(t, "a circle", false, flatOf(nil, eq(0, "neg", 1), eq(1, "neg", 0)), api.Plan{Order: []int{0, 1}, Slot: []int{0, 1}, Slots: 2})
	right(t, "itself", false, flatOf(nil, eq(0, "neg", 0)), api.Plan{Order: []int{0}, Slot: []int{0}, Slots: 1})
	right(t, "not good", false, flatOf([]int{1}, eq(0, "lit")), api.Plan{Order: []int{0}, Slot: []int{0}, Slots: 1})
	right(t, "no equation", false, api.Flat{Names: []string{"x"}}, api.Plan{Order: []int{0}, Slot: []int{0}, Slots: 1})
	right(t, "not good, no variable", false, api.Flat{Outs: []int{0}}, api.Plan{})
	right(t, "nothing", true, api.Flat{}, api.Plan{})
	right(t, "empty rows", true, api.Flat{}, api.Plan{Order: []int{}, Slot: []int{}})
	right(t, "slots left over", true, api.Flat{}, api.Plan{Slots: 9})
	right(t, "a variable too many", false, api.Flat{}, api.Plan{Order: []int{0}, Slots: 1})
	right(t, "a slot too many", false, api.Flat{}, api.Plan{Slot: []int{0}, Slots: 1})
}

// rows tells all rows of so many numbers, each below a bound.
func rows(n, below int) [][]int {
	out := [][]int{{}}
	for range n {
		var longer [][]int
		for _, l := range out {
			for i := range below {
				longer = append(longer, append(slices.Clone(l), i))
			}
		}
		out = longer
	}
	return out
}

func TestAllPlans(t *testing.T) {
	// 14.2, 14.3: all plans of small flat programs; none with the order of the one that is made is right and has fewer slots.
	count := map[bool]int{}
	for seed := range int64(150) {
		r := dice(seed)
		n := 1 + r.Intn(3)
		f := sample.Flat(r.Intn, n, seed%10 == 0)
		made, err := plan.Of(f)
		for _, order := range rows(n, n) {
			for _, slot := range rows(n, n+1) {
				for slots := range n + 2 {
					p := api.Plan{Order: order, Slot: slot, Slots: slots}
					want := isRight(f, p)
					count[want]++
					right(t, "any", want, f, p)
					if want && (err != api.OK || !keeps(f, p)) {
						t.Fatal(f, p, err)
					}
					if want && slices.Equal(order, made.Order) && slots < made.Slots {
						t.Fatal(f, p, made)
					}
				}
			}
		}
	}
	if count[true] < 500 || count[false] < 500 {
		t.Error(count)
	}
}

// spoil changes something in a plan; it may be right all the same.
func spoil(r *rand.Rand, p *api.Plan) {
	n := len(p.Order)
	i, j := r.Intn(n), r.Intn(n)
	switch r.Intn(7) {
	case 0:
		p.Order[i], p.Order[j] = p.Order[j], p.Order[i]
	case 1:
		p.Order[i] = r.Intn(n+2) - 1
	case 2:
		p.Slot[i] = r.Intn(p.Slots+2) - 1
	case 3:
		p.Slots += r.Intn(5) - 2
	case 4:
		p.Slot[i], p.Slot[j] = p.Slot[j], p.Slot[i]
	case 5:
		p.Slot[i] = p.Slot[j]
	case 6:
		p.Order, p.Slot = append(p.Order, 0)[:n-1+r.Intn(3)], append(p.Slot, 0)[:n-1+r.Intn(3)]
	}
}

func TestRandomPlans(t *testing.T) {
	// 14.2, 14.3: plans by any orders, as they are and with something changed; what is right has no fewer slots than live at one time.
	count := map[bool]int{}
	for seed := range int64(3000) {
		r := dice(seed)
		f := sample.Flat(r.Intn, 1+r.Intn(20), false)
		p := api.Plan{Order: sample.Order(r.Intn, cause.Needs(f))}
		p.Slot, p.Slots = planOf(f, p.Order)
		right(t, "by any order", true, f, p)
		if p.Slots != mostAlive(f, p.Order) {
			t.Fatal(f, p)
		}
		spoil(r, &p)
		want := isRight(f, p)
		count[want]++
		right(t, "spoiled", want, f, p)
		if want && (!keeps(f, p) || p.Slots < mostAlive(f, p.Order)) {
			t.Fatal(f, p)
		}
	}
	if count[true] < 300 || count[false] < 1000 {
		t.Error(count)
	}
}
