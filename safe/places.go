package safe

// places are slots or lines: of each one, was it written.
type places []bool

func (p places) written(i int) bool { return isPlace(i, len(p)) && p[i] }

// mayGuard tells whether a Guard is none, or something that was written.
func (p places) mayGuard(i int) bool { return i < 0 || p.written(i) }

// write notes that a place is written; false, if it is none.
func (p places) write(i int) bool {
	if !isPlace(i, len(p)) {
		return false
	}
	p[i] = true
	return true
}

func isPlace(i, n int) bool { return 0 <= i && i < n }
