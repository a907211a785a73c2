package plan_test

import (
	"math"
	"reflect"
	"slices"
	"testing"

	"foliot/api"
	"foliot/cause"
	"foliot/plan"
	"foliot/sample"
)

func TestGreatFlats(t *testing.T) {
	// R1: great flat programs are planned, whatever lives together in them.
	const n = 200000
	none := func(int) int { return -1 }
	for what, c := range map[string]struct {
		needs    func(v int) int
		outs     bool
		slots    int
		together bool // do the last two live at one time
	}{
		"apart":                    {none, false, 1, false},
		"all at once":              {none, true, n, true},
		"a row":                    {func(v int) int { return v - 1 }, false, 2, true},
		"one that all need":        {func(v int) int { return 0 }, false, 2, false},
		"the first half and back":  {func(v int) int { return n - 1 - v }, false, n/2 + 1, false},
		"the first half once more": {func(v int) int { return v - n/2 }, false, n/2 + 1, false},
	} {
		f := api.Flat{Names: make([]string, n)}
		for v := range n {
			q := eq(v, "lit")
			if u := c.needs(v); 0 <= u && u < v {
				q = eq(v, "neg", u)
			}
			f.Eqs = append(f.Eqs, q)
			if c.outs {
				f.Outs = append(f.Outs, v)
			}
		}
		p, err := plan.Of(f)
		if err != api.OK || p.Slots != c.slots || !plan.Right(f, p) {
			t.Fatal(what, err, p.Slots)
		}
		p.Slot[n-1] = p.Slot[n-2]
		if plan.Right(f, p) == c.together {
			t.Error(what, c.together)
		}
	}
}

func TestWhateverIsGiven(t *testing.T) {
	// R1, R2: calls end at all flat programs and plans; they are of one mind with layers 12 and 13.
	r := dice(1)
	odd := func() int { return []int{math.MinInt, -1, 0, 0, 0, 1, 1, 2, math.MaxInt}[r.Intn(9)] }
	count := map[api.Errno]int{}
	for range 30000 {
		f := sample.Odd(r.Intn)
		_, want := cause.Order(f)
		p, err := plan.Of(f)
		count[err]++
		if err != want || plan.Right(f, p) != (err == api.OK) {
			t.Fatal(f, p, err)
		}
		p = api.Plan{Order: []int{odd(), odd()}[:r.Intn(3)], Slot: []int{odd(), odd()}[:r.Intn(3)], Slots: odd()}
		right(t, "whatever", isRight(f, p), f, p)
	}
	if count[api.OK] < 300 || count[api.ErrArg] < 300 || count[api.ErrCause] < 100 {
		t.Error(count)
	}
}

func TestNothingIsChanged(t *testing.T) {
	// R4, R5: what is handed in is as it was, to behind its lists' ends; what is handed out shares no memory with anything.
	for seed := range int64(300) {
		make := func() api.Flat {
			f := sample.Flat(dice(seed).Intn, 12, false)
			sample.Lengthen(&f)
			return f
		}
		f := make()
		p, err := plan.Of(f)
		again, _ := plan.Of(f)
		if err != api.OK || !reflect.DeepEqual(p, again) || !plan.Right(f, p) || !reflect.DeepEqual(p, again) {
			t.Fatal(f, p, err)
		}
		for _, l := range [][]int{p.Order[:cap(p.Order)], p.Slot[:cap(p.Slot)]} {
			for i := range l {
				l[i] = -9
			}
			if other, _ := plan.Of(f); !reflect.DeepEqual(other, again) {
				t.Fatal(f, other, again)
			}
		}
		if !reflect.DeepEqual(f, make()) || !sample.Lengthened(f) {
			t.Fatal(f)
		}
		// Order and Slot are two.
		for i := range again.Order[:cap(again.Order)] {
			again.Order[:cap(again.Order)][i] = -9
		}
		if other, _ := plan.Of(f); !slices.Equal(other.Slot, again.Slot) {
			t.Fatal(f, other, again)
		}
	}
}

func TestPlanIsNotChanged(t *testing.T) {
	// R4: nor is a plan that is asked for, be it right or not.
	for seed := range int64(300) {
		make := func() (api.Flat, api.Plan) {
			r := dice(seed)
			f := sample.Flat(r.Intn, 12, false)
			p, _ := plan.Of(f)
			spoil(r, &p)
			p.Order, p.Slot = append(slices.Clone(p.Order), 70)[:len(p.Order)], append(slices.Clone(p.Slot), 80)[:len(p.Slot)]
			return f, p
		}
		f, p := make()
		g, q := make()
		if plan.Right(f, p) != plan.Right(f, p) || !reflect.DeepEqual(f, g) || !reflect.DeepEqual(p, q) || p.Order[:len(p.Order)+1][len(p.Order)] != 70 || p.Slot[:len(p.Slot)+1][len(p.Slot)] != 80 {
			t.Fatal(f, p)
		}
	}
}
