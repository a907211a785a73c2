package flat

import "foliot/api"

// eachOnce tells whether each variable is that of one equation.
func eachOnce(f api.Flat) bool {
	seen := make([]bool, len(f.Names))
	for _, q := range f.Eqs {
		if !isPlace(q.Var, len(seen)) || seen[q.Var] {
			return false
		}
		seen[q.Var] = true
	}
	return len(f.Eqs) == len(f.Names)
}

// allEqs tells whether all equations have what their Ops need.
func allEqs(f api.Flat) bool {
	for _, q := range f.Eqs {
		if !isGuard(q.Guard, f) || !areVars(q.Args, f) || !hasEnough(q) || !hasPlace(q, f) {
			return false
		}
	}
	return true
}

// hasEnough tells whether an equation has as many Args as its Op needs.
func hasEnough(q api.FEq) bool {
	n := len(q.Args)
	switch q.Op {
	case "lit", "in", "mem", "cont", "flag":
		return n == 0
	case "copy", "neg", "not", "floor", "rat":
		return n == 1
	case "gand", "mrg":
		return n >= 1
	case "+", "-", "*", "/", "div", "mod", "<", "<=", ">", ">=", "==", "!=", "and", "or":
		return n == 2
	case "sel":
		return n == 3
	}
	return false
}

// hasPlace tells whether K is what an equation's Op reads, if it reads something.
func hasPlace(q api.FEq, f api.Flat) bool {
	switch q.Op {
	case "in":
		return isPlace(q.K, len(f.Ins))
	case "mem":
		return isPlace(q.K, len(f.Mems))
	case "cont":
		return isPlace(q.K, len(f.Conts))
	case "flag":
		return isPlace(q.K, len(f.Cross))
	}
	return true
}

// allKept tells whether outputs, memories, states and what asks for more instants are of variables.
func allKept(f api.Flat) bool {
	if !areVars(f.Outs, f) || !areVars(f.Again, f) {
		return false
	}
	for _, m := range f.Mems {
		if !isVar(m.Next, f) || !isGuard(m.Guard, f) || !areVars(m.Resets, f) {
			return false
		}
	}
	for _, c := range f.Conts {
		if !isVar(c.Var, f) || !isGuard(c.Guard, f) || !areVars(c.Resets, f) || !areSlopes(c.Slopes, f) {
			return false
		}
	}
	return true
}

func areSlopes(l []api.Slope, f api.Flat) bool {
	for _, s := range l {
		if !isGuard(s.Guard, f) || !isVar(s.Var, f) {
			return false
		}
	}
	return true
}

// allCrossings tells whether each crossing asks something, by operations that have what they need.
func allCrossings(f api.Flat) bool {
	for _, c := range f.Cross {
		if !isGuard(c.Guard, f) || len(c.Ops) == 0 {
			return false
		}
		for i, op := range c.Ops {
			if !isAsked(op, i, f) {
				return false
			}
		}
	}
	return true
}

// isAsked tells whether an operation, with so many ahead of it, has what it needs.
func isAsked(op api.COp, ahead int, f api.Flat) bool {
	a := op.Args
	switch op.Op {
	case "var":
		return len(a) == 1 && isVar(a[0], f)
	case "cont":
		return len(a) == 1 && isPlace(a[0], len(f.Conts))
	case "neg":
		return len(a) == 1 && arePlaces(a, ahead)
	case "+", "-", "/":
		return len(a) == 2 && arePlaces(a, ahead)
	case "*":
		return len(a) == 3 && arePlaces(a[:2], ahead) && isPlace(a[2], 2)
	case "sel":
		return len(a) == 3 && isVar(a[0], f) && arePlaces(a[1:], ahead)
	}
	return false
}

func isPlace(i, n int) bool { return 0 <= i && i < n }

func arePlaces(l []int, n int) bool {
	for _, i := range l {
		if !isPlace(i, n) {
			return false
		}
	}
	return true
}

func isVar(v int, f api.Flat) bool { return isPlace(v, len(f.Names)) }

func areVars(l []int, f api.Flat) bool { return arePlaces(l, len(f.Names)) }

// isGuard tells whether a guard is none, or a variable.
func isGuard(v int, f api.Flat) bool { return v < 0 || isVar(v, f) }
