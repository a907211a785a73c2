package exec

import (
	"slices"

	"foliot/api"
	"foliot/ratio"
)

// op is what an operation on values tells (layer 12).
func (f *faults) op(name string, l ...api.Value) api.Value {
	switch name {
	case "gand":
		return truth(!slices.ContainsFunc(l, isNotTrue))
	case "mrg":
		return merged(l)
	case "sel":
		return chosen(l[0], l[1], l[2])
	}
	switch {
	case slices.ContainsFunc(l, isNothing):
		return api.Value{}
	case len(l) == 1:
		return f.one(name, l[0])
	}
	return f.two(name, l[0], l[1])
}

// merged is the first value of such as have their guards ahead of them, whose guard is true; else the one that is left over.
func merged(l []api.Value) api.Value {
	for ; len(l) > 1; l = l[2:] {
		if isTrue(l[0]) {
			return l[1]
		}
	}
	if len(l) == 1 {
		return l[0]
	}
	return api.Value{}
}

func chosen(by, a, b api.Value) api.Value {
	switch {
	case isNothing(by):
		return api.Value{}
	case isTrue(by):
		return a
	}
	return b
}

// one is what an operation tells of one value that is not nothing.
func (f *faults) one(name string, a api.Value) api.Value {
	switch name {
	case "not":
		return truth(isNotTrue(a))
	case "neg":
		return f.number(ratio.Neg(a.Num))
	case "floor":
		return f.number(floor(a.Num))
	case "rat":
		// Of what is no number, Num stands as it came.
		return f.number(ratio.Norm(a.Num))
	}
	return a
}

// two is what an operation tells of two values that are not nothing.
func (f *faults) two(name string, a, b api.Value) api.Value {
	switch name {
	case "+":
		return f.number(ratio.Add(a.Num, b.Num))
	case "-":
		return f.number(ratio.Sub(a.Num, b.Num))
	case "*":
		return f.number(ratio.Mul(a.Num, b.Num))
	case "/":
		return f.quotient(a.Num, b.Num, func(q api.Rat) api.Rat { return q })
	case "div":
		return f.quotient(a.Num, b.Num, floor)
	case "mod":
		return f.quotient(a.Num, b.Num, func(q api.Rat) api.Rat { return ratio.Sub(a.Num, ratio.Mul(floor(q), b.Num)) })
	}
	return truth(holds(name, a, b))
}

// holds tells whether what asks two values for a truth is true.
func holds(name string, a, b api.Value) bool {
	switch name {
	case "and":
		return isTrue(a) && isTrue(b)
	case "or":
		return isTrue(a) || isTrue(b)
	case "==":
		return isSame(a, b)
	case "!=":
		return !isSame(a, b)
	}
	c := ratio.Cmp(a.Num, b.Num)
	switch name {
	case "<":
		return c < 0
	case "<=":
		return c <= 0
	case ">":
		return c > 0
	}
	return c >= 0
}
