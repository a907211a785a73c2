package plan

import (
	"container/heap"
	"sort"
)

// layOut tells of each variable the least slot that is free at its first place, and how many slots there are.
func layOut(order []int, lives []life) ([]int, int) {
	out := make([]int, len(order))
	slots := 0
	var free freed
	left := leaving(lives)
	for i, v := range order {
		slot := slots
		if free.Len() > 0 {
			slot = heap.Pop(&free).(int)
		} else {
			slots++
		}
		out[v] = slot
		if last := lives[v].last; last < len(left) {
			left[last] = append(left[last], slot)
		}
		for _, s := range left[i] {
			heap.Push(&free, s)
		}
	}
	return out, slots
}

// leaving makes an empty row for each place, of the slots that come free behind it. All rows are parts of one piece of memory, as long as they will be, so that none grows into the next one's part.
func leaving(lives []life) [][]int {
	howMany := make([]int, len(lives))
	for _, x := range lives {
		if x.last < len(lives) {
			howMany[x.last]++
		}
	}
	whole := make([]int, len(lives))
	out := make([][]int, len(lives))
	at := 0
	for i, n := range howMany {
		out[i] = whole[at : at : at+n]
		at += n
	}
	return out
}

// freed is a heap of slots in which nobody lies any more: the least one comes out first.
type freed struct{ sort.IntSlice }

// Push puts a slot behind the others: package heap calls it.
func (f *freed) Push(slot any) { f.IntSlice = append(f.IntSlice, slot.(int)) }

// Pop takes the last slot away: package heap calls it.
func (f *freed) Pop() any {
	last := f.Len() - 1
	slot := f.IntSlice[last]
	f.IntSlice = f.IntSlice[:last]
	return slot
}
