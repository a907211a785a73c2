package graph

// ready is a heap of the places that might stand next in an order: the least one comes out first.
type ready []int

func (r ready) Len() int           { return len(r) }
func (r ready) Less(a, b int) bool { return r[a] < r[b] }
func (r ready) Swap(a, b int)      { r[a], r[b] = r[b], r[a] }

// Push puts a place behind the others: package heap calls it.
func (r *ready) Push(place any) { *r = append(*r, place.(int)) }

// Pop takes the last place away: package heap calls it.
func (r *ready) Pop() any {
	last := len(*r) - 1
	place := (*r)[last]
	*r = (*r)[:last]
	return place
}
