package kinds

import (
	"slices"

	"foliot/api"
)

// matcher tells whether an expression by itself, its Args aside, is what is looked for.
type matcher func(api.Expr) bool

// in tells whether what is looked for stands in an expression.
func (is matcher) in(e api.Expr) bool {
	return is(e) || slices.ContainsFunc(e.Args, is.in)
}

// readerOf looks for variables of these names.
func readerOf(names []string) matcher {
	l := set{}
	for _, name := range names {
		l.add(name)
	}
	return func(e api.Expr) bool { return e.Kind == api.EVar && l.has(e.Name) }
}

// set is a set of names.
type set map[string]struct{}

func (s set) add(name string) { s[name] = struct{}{} }

func (s set) has(name string) bool {
	_, ok := s[name]
	return ok
}
