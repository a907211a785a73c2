package types

import (
	"slices"

	"foliot/api"
)

// rule is what a sign, or a word, asks of the types of what it stands at, and what comes of it.
type rule struct {
	asks  func([]string) (string, bool) // what they join to, and whether that is as it is asked
	gives string                        // the type that comes of it; an empty one: what they join to
}

// of tells the type that comes of these types, if they are as the rule asks.
func (r rule) of(l []string) (string, bool) {
	t, ok := r.asks(l)
	if r.gives != "" {
		t = r.gives
	}
	return t, ok
}

// joining asks that types join, and to one of these; without any: to whichever.
func joining(wanted ...string) func([]string) (string, bool) {
	return func(l []string) (string, bool) {
		t, ok := joinAll(l)
		return t, ok && (len(wanted) == 0 || slices.Contains(wanted, t))
	}
}

// choosing asks that the first type is that of a truth, and that the others join.
func choosing() func([]string) (string, bool) {
	return func(l []string) (string, bool) {
		t, ok := joinAll(l[1:])
		return t, ok && l[0] == truth
	}
}

// ruleOf tells the rule of an expression that is put together of Args, each of one type. (A - ahead of one asks just what a - between two does.)
func ruleOf(e api.Expr) rule {
	switch e.Kind {
	case api.EIf:
		return rule{asks: choosing()}
	case api.EUp:
		return rule{asks: joining(exact, number), gives: truth}
	}
	switch e.Name {
	case "not", "and", "or":
		return rule{asks: joining(truth)}
	case "+", "-", "*":
		return rule{asks: joining(whole, exact, number)}
	case "/":
		return rule{asks: joining(exact, number), gives: exact}
	case "div", "mod":
		return rule{asks: joining(whole, number), gives: whole}
	case "floor":
		return rule{asks: joining(exact, number), gives: whole}
	case "rat":
		return rule{asks: joining(whole, number), gives: exact}
	case "<", "<=", ">", ">=":
		return rule{asks: joining(whole, exact, number), gives: truth}
	case "==", "!=":
		return rule{asks: joining(), gives: truth}
	}
	return rule{asks: joining()} // pre, fby, ->
}
