package names

// set is a set of names.
type set map[string]struct{}

func (s set) has(name string) bool {
	_, ok := s[name]
	return ok
}

// add puts a name into a set, and tells whether it is new there.
func (s set) add(name string) bool {
	if s.has(name) {
		return false
	}
	s[name] = struct{}{}
	return true
}

// once is a row of names in which each stands once, where it came first.
type once struct {
	names []string
	there set
}

func (o *once) put(names ...string) {
	if o.there == nil {
		o.there = set{}
	}
	for _, name := range names {
		if o.there.add(name) {
			o.names = append(o.names, name)
		}
	}
}
