package kinds

import "foliot/api"

// The kinds of expressions, the least lively one first.
const (
	stays = iota // as the last instant told it
	even         // goes on evenly, where ders do
	other        // goes on otherwise, or only an instant tells it
)

// kindOf tells an expression's kind; der looks for ders. It goes by the kinds of the Args, so that no part is gone through twice.
func kindOf(e api.Expr, der matcher) int {
	l := make([]int, 0, len(e.Args))
	for _, a := range e.Args {
		l = append(l, kindOf(a, der))
	}
	switch {
	case most(l) == stays && !der(e) && !loud(e):
		return stays
	case isEven(e, l):
		return even
	}
	return other
}

// loud tells whether an expression by itself is one with which none is quiet.
func loud(e api.Expr) bool {
	switch e.Kind {
	case api.EUn:
		return e.Name == "pre"
	case api.EBin:
		return e.Name == "fby" || e.Name == "->"
	}
	return e.Kind == api.ECall || e.Kind == api.EUp
}

// most tells the most lively one of some kinds.
func most(l []int) int {
	out := stays
	for _, kind := range l {
		out = max(out, kind)
	}
	return out
}

// isEven tells whether an expression that does not stay goes on evenly, its Args being of these kinds.
func isEven(e api.Expr, l []int) bool {
	switch {
	case e.Kind == api.EVar:
		return true
	case most(l) == other:
		return false
	case e.Kind == api.EUn && len(l) == 1:
		return e.Name == "-"
	case e.Kind == api.EBin && len(l) == 2:
		return isEvenOfTwo(e.Name, l[0], l[1])
	case e.Kind == api.EIf && len(l) == 3:
		return l[0] == stays
	}
	return false
}

// isEvenOfTwo tells whether a sign makes something that goes on evenly of two that stay or go on evenly.
func isEvenOfTwo(sign string, a, b int) bool {
	switch sign {
	case "+", "-":
		return true
	case "*":
		return a == stays || b == stays
	case "/":
		return b == stays
	}
	return false
}
