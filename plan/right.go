package plan

import "foliot/api"

// isEachOnce tells whether an order has each of so many variables, and each once.
func isEachOnce(order []int, n int) bool {
	seen := make([]bool, n)
	for _, v := range order {
		if v < 0 || v >= n || seen[v] {
			return false
		}
		seen[v] = true
	}
	return len(order) == n
}

// areSlots tells whether each of so many variables has a slot, and each slot is one of those that there are.
func areSlots(p api.Plan, n int) bool {
	for _, s := range p.Slot {
		if s < 0 || s >= p.Slots {
			return false
		}
	}
	return len(p.Slot) == n
}

// areBehind tells whether each variable stands behind what it needs.
func areBehind(needs [][]int, lives []life) bool {
	for v, l := range needs {
		for _, u := range l {
			if lives[u].first >= lives[v].first {
				return false
			}
		}
	}
	return true
}

// areApart tells whether no two variables that lie in one slot live at one time. Slots may be any numbers.
func areApart(p api.Plan, lives []life) bool {
	lies := map[int]int{} // in each slot the variable that came there last
	for i, v := range p.Order {
		slot := p.Slot[v]
		if u, taken := lies[slot]; taken && lives[u].last >= i {
			return false
		}
		lies[slot] = v
	}
	return true
}
