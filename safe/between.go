package safe

import "foliot/api"

// deriv tells whether an instruction may stand in Deriv, behind Step.
func (r *reader) deriv(x api.Ins) bool {
	if x.Op != "slope" || len(x.Args)%2 != 0 || !r.hasPlace(x) || !r.isBetween(x) {
		return false
	}
	for i := 0; i < len(x.Args); i += 2 {
		if !r.slots.mayGuard(x.Args[i]) || !r.slots.written(x.Args[i+1]) {
			return false
		}
	}
	return true
}

// cross tells whether an instruction may stand in Cross, behind Step and those that were read.
func (r *reader) cross(x api.Ins) bool {
	slots, lines, ok := operands(x.Op)
	if !ok || len(x.Args) != slots+lines || !r.hasPlace(x) || !r.isBetween(x) {
		return false
	}
	if !all(x.Args[:slots], r.slots.written) || !all(x.Args[slots:], r.lines.written) {
		return false
	}
	return x.Op == "ask" || r.lines.write(x.Dst)
}

// isBetween tells whether an instruction is on by what Step tells, and begins nothing anew.
func (r *reader) isBetween(x api.Ins) bool {
	return r.slots.mayGuard(x.Guard) && len(x.Resets) == 0
}

// operands tells how many slots, and behind these how many lines an Op of Cross has as Args; false, if it is none.
func operands(op string) (int, int, bool) {
	switch op {
	case "lcont":
		return 0, 0, true
	case "lvar":
		return 1, 0, true
	case "lneg", "ask":
		return 0, 1, true
	case "l+", "l-", "l*", "l/":
		return 0, 2, true
	case "lsel":
		return 1, 2, true
	}
	return 0, 0, false
}
