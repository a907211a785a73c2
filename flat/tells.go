package flat

// told is what a block tells of a variable: this value, where its guard is true.
type told struct{ guard, value int }

// tells is what blocks tell, by the variables' names.
type tells map[string][]told

// put notes what a block tells of a variable behind what others do.
func (t tells) put(name string, l []told) { t[name] = append(t[name], l...) }

// each hands on what is told, variable by variable, in no order.
func (t tells) each(do func(name string, l []told)) {
	for name, l := range t {
		do(name, l)
	}
}
