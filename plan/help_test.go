package plan_test

import (
	"math/rand"
	"slices"
	"testing"

	"foliot/api"
	"foliot/cause"
	"foliot/flat"
	"foliot/plan"
)

func dice(seed int64) *rand.Rand { return rand.New(rand.NewSource(seed)) }

// eq is an equation without a guard.
func eq(v int, op string, args ...int) api.FEq {
	return api.FEq{Var: v, Op: op, Args: args, Guard: -1}
}

// flatOf is a flat program of these equations and outputs.
func flatOf(outs []int, eqs ...api.FEq) api.Flat {
	return api.Flat{Ins: []string{"v"}, Names: make([]string, len(eqs)), Outs: outs, Eqs: eqs}
}

// planned asks for a flat program's order and slots; the plan is right.
func planned(t *testing.T, what string, f api.Flat, order, slot []int, slots int) {
	t.Helper()
	p, err := plan.Of(f)
	if err != api.OK || !slices.Equal(p.Order, order) || !slices.Equal(p.Slot, slot) || p.Slots != slots {
		t.Errorf("%s: got %v, %v, want %v, %v, %v", what, p, err, order, slot, slots)
	}
	if !plan.Right(f, p) {
		t.Errorf("%s: %v is not right", what, p)
	}
}

// The tests hold the package against the words of the chapter, asked one by one.

// isBehindAll tells whether a variable's last place is behind all.
func isBehindAll(f api.Flat, v int) bool {
	is := slices.Contains(f.Outs, v) || slices.Contains(f.Again, v)
	for _, m := range f.Mems {
		is = is || m.Next == v || m.Guard == v || slices.Contains(m.Resets, v)
	}
	for _, c := range f.Conts {
		is = is || c.Var == v || c.Guard == v || slices.Contains(c.Resets, v)
		for _, s := range c.Slopes {
			is = is || s.Guard == v || s.Var == v
		}
	}
	for _, c := range f.Cross {
		is = is || c.Guard == v
		for _, op := range c.Ops {
			is = is || (op.Op == "var" || op.Op == "sel") && op.Args[0] == v
		}
	}
	return is
}

// lastOf tells a variable's last place in an order.
func lastOf(f api.Flat, order []int, v int) int {
	if isBehindAll(f, v) {
		return len(order)
	}
	last := slices.Index(order, v)
	for u, needs := range cause.Needs(f) {
		if slices.Contains(needs, v) {
			last = max(last, slices.Index(order, u))
		}
	}
	return last
}

// planOf tells the slots for an order, and how many there are.
func planOf(f api.Flat, order []int) ([]int, int) {
	slot, slots := make([]int, len(order)), 0
	for i, v := range order {
		isTaken := func(s int) bool {
			return slices.ContainsFunc(order[:i], func(u int) bool { return slot[u] == s && lastOf(f, order, u) >= i })
		}
		for isTaken(slot[v]) {
			slot[v]++
		}
		slots = max(slots, slot[v]+1)
	}
	return slot, slots
}

// isRight tells whether a plan is right.
func isRight(f api.Flat, p api.Plan) bool {
	n := len(f.Names)
	if !flat.Good(f) || len(p.Order) != n || len(p.Slot) != n {
		return false
	}
	for v, needs := range cause.Needs(f) {
		at := slices.Index(p.Order, v)
		if at < 0 || slices.ContainsFunc(needs, func(u int) bool { return slices.Index(p.Order, u) >= at }) {
			return false
		}
	}
	for v, s := range p.Slot {
		if s < 0 || s >= p.Slots {
			return false
		}
		for u := range p.Slot {
			isLater := slices.Index(p.Order, u) > slices.Index(p.Order, v)
			if p.Slot[u] == s && isLater && slices.Index(p.Order, u) <= lastOf(f, p.Order, v) {
				return false
			}
		}
	}
	return true
}

// mostAlive tells how many variables live at one time, at most.
func mostAlive(f api.Flat, order []int) int {
	most := 0
	for i := range order {
		alive := 0
		for _, v := range order[:i+1] {
			if lastOf(f, order, v) >= i {
				alive++
			}
		}
		most = max(most, alive)
	}
	return most
}

// keeps tells whether each variable that is asked for still lies in its slot then, one being told behind the other.
func keeps(f api.Flat, p api.Plan) bool {
	lies := make([]int, p.Slots) // who was written there last, counted from 1
	there := func(v int) bool { return lies[p.Slot[v]] == v+1 }
	needs := cause.Needs(f)
	for _, v := range p.Order {
		for _, u := range needs[v] {
			if !there(u) {
				return false
			}
		}
		lies[p.Slot[v]] = v + 1
	}
	for v := range f.Names {
		if isBehindAll(f, v) && !there(v) {
			return false
		}
	}
	return true
}
