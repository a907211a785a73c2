package safe

import "foliot/api"

// step tells whether an instruction may stand in Step, behind those that were read.
func (r *reader) step(x api.Ins) bool {
	if !hasEnough(x) || !r.hasPlace(x) || len(x.Resets) > 0 && !mayBegin(x.Op) {
		return false
	}
	if !r.slots.mayGuard(x.Guard) || !all(x.Args, r.slots.written) || !all(x.Resets, r.slots.written) {
		return false
	}
	return isEnd(x.Op) || r.slots.write(x.Dst)
}

// hasEnough tells whether an instruction of Step has as many Args as its Op needs.
func hasEnough(x api.Ins) bool {
	n := len(x.Args)
	switch x.Op {
	case "lit", "in", "mem", "cont", "flag":
		return n == 0
	case "copy", "neg", "not", "floor", "rat", "keep", "state", "out", "again":
		return n == 1
	case "gand", "mrg":
		return n >= 1
	case "+", "-", "*", "/", "div", "mod", "<", "<=", ">", ">=", "==", "!=", "and", "or":
		return n == 2
	case "sel":
		return n == 3
	}
	return false
}

// isEnd tells whether an Op of Step is no equation's: its instruction writes no slot.
func isEnd(op string) bool {
	switch op {
	case "keep", "state", "out", "again":
		return true
	}
	return false
}

// mayBegin tells whether an Op is of what begins anew by Resets.
func mayBegin(op string) bool {
	switch op {
	case "mem", "cont", "keep", "state":
		return true
	}
	return false
}
