package inits

import (
	"slices"

	"foliot/api"
)

// The levels of expressions: what they tell at the first instant.
const (
	something = iota
	nothing   // it may be so
)

// levelOf tells an expression's level. Its Args are asked ahead of it, so that what is wrong innermost is told.
func levelOf(e api.Expr) int {
	l := make([]int, 0, len(e.Args))
	for _, a := range e.Args {
		l = append(l, levelOf(a))
	}
	switch e.Kind {
	case api.EUn:
		if e.Name == "pre" {
			mustTell(l[0], e.Pos)
			return nothing
		}
	case api.EBin:
		switch e.Name {
		case "fby":
			// What it tells at the second instant is what its second Arg told at the first one.
			mustTell(l[1], e.Args[1].Pos)
			return l[0]
		case "->":
			return l[0]
		}
	case api.ECall, api.EUp:
		for i, a := range e.Args {
			mustTell(l[i], a.Pos)
		}
		return something
	}
	return slices.Max(append(l, something))
}
