package inits

import "foliot/api"

// untold is what is panicked with: the place of what may be nothing where it must not be.
type untold int

// mustTell says that what stands there is not told at the first instant, if that is its level.
func mustTell(level, place int) {
	if level != something {
		panic(untold(place))
	}
}

// caught does something, and tells what was wrong in it: that comes up as a panic, from however deep.
func caught(do func()) (err api.Errno, place int) {
	defer func() {
		switch wrong := recover().(type) {
		case nil:
		case untold:
			err, place = api.ErrInit, int(wrong)
		default:
			panic(wrong)
		}
	}()
	do()
	return api.OK, 0
}

func checkEqs(l []api.Eq) {
	for _, q := range l {
		checkEq(q)
	}
}

// checkEq asks that all expressions of an equation are told at the first instant, in the order in which they are read.
func checkEq(q api.Eq) {
	switch q.Kind {
	case api.QDef, api.QDer:
		checkExprs(q.Args)
		checkExprs(q.Init)
		checkExprs(q.Again)
	case api.QReset:
		checkEqs(q.Blocks[0])
		checkExprs(q.Args)
	case api.QPresent:
		checkExprs(q.Args)
		checkEqs(q.Blocks[0])
		checkEqs(q.Blocks[1])
	case api.QAuto:
		checkStates(q.States)
	}
}

func checkStates(l []api.State) {
	for _, s := range l {
		checkEqs(s.Eqs)
		for _, t := range s.Trans {
			checkExpr(t.Cond)
		}
	}
}

func checkExprs(l []api.Expr) {
	for _, e := range l {
		checkExpr(e)
	}
}

func checkExpr(e api.Expr) { mustTell(levelOf(e), e.Pos) }
