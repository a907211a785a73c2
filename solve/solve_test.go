package solve_test

import (
	"strings"
	"testing"

	"foliot/api"
	"foliot/solve"
)

// long is a number of many limbs, small one that is very near to nought.
const (
	long  = "123456789012345678901234567890123456789012345678901234567890"
	small = "1/" + long
)

func TestAt(t *testing.T) {
	// 18.1: V + S dt; of one that is not On: 0.
	for _, x := range []string{
		"-1,2 0 = -1", "-1,2 1/2 = 0", "-1,2 1 = 1", "-1,2 -1 = -3", "-3,4 3/4 = 0", "-3,4 1/2 = -1",
		"1,1 4/3 = 7/3", "5,0 7 = 5", "0,0 7 = 0", "0,3 2 = 6", "0,3 0 = 0", "1/2,-1/3 3/2 = 0", "1/2,-1/3 6 = -3/2", "-1/2,1/6 1 = -1/3", "7,-7 -1 = 14",
		"-1,0 99 = -1", "-1,-1 3 = -4", "1/6,1/3 1/2 = 1/3", "-5/2,5 1/2 = 0",
		"-" + long + ",1 " + long + " = 0", "-1," + long + " " + small + " = 0", small + "," + long + " 0 = " + small, "0," + small + " " + long + " = 1", "1,1 " + long + " = " + long[:len(long)-1] + "1",
		"~-1,2 1 = 0", "~5,0 0 = 0", "~0,0 0 = 0", "~-3,4 3/4 = 0", "~1/2,1/3 -7 = 0", "~" + long + "," + long + " " + long + " = 0",
	} {
		call, want, _ := strings.Cut(x, " = ")
		l, dt, _ := strings.Cut(call, " ")
		is(t, call, text(solve.At(line(l), rat(dt))), want)
	}
	is(t, "no line", text(solve.At(api.Line{}, api.Rat{})), "0")
	is(t, "a line of no numbers", text(solve.At(api.Line{On: true}, api.Rat{})), "0")
}

func TestPasses(t *testing.T) {
	// 18.1: it passes, if it is below 0 now, S is above 0, and it is 0 then.
	for _, x := range []string{
		"-1,2 = 1/2", "-3,4 = 3/4", "-1,1 = 1", "-4,3 = 4/3", "-8,6 = 4/3", "-1/2,1/3 = 3/2", "-1/6,4 = 1/24", "-7,7/2 = 2", "-6/4,2/6 = 9/2",
		"-" + long + ",1 = " + long, "-1," + long + " = " + small, "-" + small + ",1 = " + small, "-1," + small + " = " + long, "-" + small + "," + small + " = 1", "-" + long + "," + long + " = 1",
		// Not below 0, so none; not above 0, so none; neither.
		"0,1 = -", "0,5 = -", "1,1 = -", small + ",1 = -", long + ",1 = -", "1/2,1/3 = -",
		"-1,0 = -", "-1,-1 = -", "-1,-" + small + " = -", "-" + long + ",0 = -", "-1/2,-1/3 = -",
		"0,0 = -", "0,-1 = -", "1,0 = -", "1,-1 = -", "2,-4 = -",
		// Not On, so none.
		"~-1,2 = -", "~-3,4 = -", "~0,0 = -", "~1,-1 = -", "~-1,0 = -", "~-" + small + "," + long + " = -",
	} {
		l, want, _ := strings.Cut(x, " = ")
		is(t, l, timeText(solve.Passes(line(l))), want)
	}
	is(t, "no line", timeText(solve.Passes(api.Line{})), "-")
	is(t, "a line of no numbers", timeText(solve.Passes(api.Line{On: true})), "-")
	is(t, "by no number", timeText(solve.Passes(api.Line{On: true, V: rat("-1")})), "-")
}

func TestNext(t *testing.T) {
	// 18.2: the least time at which one of some lines passes, and whether there is one.
	for _, x := range []string{
		" = -", "-1,2 = 1/2", "-1,2 -3,4 = 1/2", "-3,4 -1,2 = 1/2", "-3,4 -1,2 -2,1 = 1/2", "-2,1 -3,4 -1,2 = 1/2", "-2,1 -1,2 -3,4 = 1/2", "-1,1 -1,1 = 1", "-4,3 -8,6 = 4/3", "-9,1 -8,1 -7,1 -6,1 = 6", "-6,1 -7,1 -8,1 -9,1 = 6",
		"1,1 -1,-1 -4,3 0,5 -8,6 ~-1,9 = 4/3", "~-1,2 -3,4 = 3/4", "-3,4 ~-1,2 = 3/4", "0,1 -3,4 = 3/4", "-3,4 0,1 = 3/4", "1,-1 -3,4 5,0 = 3/4", "-1/1000,0 -3,4 -1/1000,-1 = 3/4",
		"1,1 = -", "1,1 -1,-1 = -", "0,1 = -", "-1,0 = -", "~-1,2 = -", "~-1,2 ~-3,4 0,1 -5,0 1,-1 0,0 = -",
		"-1,3 -333333333333333333333333333333,1000000000000000000000000000000 = 333333333333333333333333333333/1000000000000000000000000000000",
		"-1,3 -333333333333333333333333333334,1000000000000000000000000000000 = 1/3", "-" + long + ",1 -1," + long + " = " + small,
	} {
		l, want, _ := strings.Cut(x, " = ")
		is(t, l, timeText(solve.Next(lines(l))), want)
	}
	is(t, "nil", timeText(solve.Next(nil)), "-")
	is(t, "lines that are none", timeText(solve.Next(make([]api.Line, 3))), "-")
}

func TestPassed(t *testing.T) {
	// 18.2: of each line: was it On, below 0, and is it not below 0 at dt.
	for _, x := range []string{
		"1/2 -1,2 -3,4 = x.", "3/4 -1,2 -3,4 = xx", "0 -1,2 -3,4 = ..", "1/4 -1,2 -3,4 = ..", "4/3 1,1 -1,-1 -4,3 0,5 -8,6 ~-1,9 = ..x.x.",
		"1 -1,1 = x", "1 -1,2 = x", "1 -2,1 = .", "1 -1,0 = .", "1 -1,-1 = .", "1 0,0 0,1 0,-1 = ...", "1 1,1 1,0 1,-1 1,-2 = ....",
		"1 ~-1,1 ~-1,2 ~0,0 ~1,1 = ....", "0 -1,1 0,1 1,1 -" + small + "," + long + " = ....",
		"99 -1,1 -100,1 -99,1 -98,1 -1,-1 1,1 = x.xx..", "1/3 -1,3 -333333333333333333333333333334,1000000000000000000000000000000 -333333333333333333333333333333,1000000000000000000000000000000 = x.x",
		small + " -1," + long + " -" + small + ",1 -" + small + ",1/2 = xx.", long + " -" + long + ",1 -" + long + ",9/10 -1," + small + " = x.x",
		// At times that lie behind, too, it is as the words say: what goes on below 0 was not below 0.
		"-1 -1,-1 -1,-2 -2,-1 -1,1 -1,0 1,-1 0,-1 ~-1,-1 = xx......", "-1/2 -1,-2 -1,-1 = x.",
	} {
		call, want, _ := strings.Cut(x, " = ")
		dt, l, _ := strings.Cut(call, " ")
		is(t, call, marks(solve.Passed(lines(l), rat(dt))), want)
	}
	is(t, "nil", marks(solve.Passed(nil, rat("1"))), "")
	is(t, "none", marks(solve.Passed([]api.Line{}, rat("1"))), "")
	is(t, "lines that are none", marks(solve.Passed(make([]api.Line, 3), api.Rat{})), "...")
	is(t, "no time", marks(solve.Passed(lines("-1,1 0,0 1,1"), api.Rat{})), "...")
}

func TestForms(t *testing.T) {
	// Chapter 3: a number that is handed in counts as the number that it says; if its Den is 0, as 0.
	for _, v := range []string{"0", "-1", "2", "-3/2", "-" + long} {
		for _, s := range []string{"0", "1", "-2", "7/3", long} {
			l := line(v + "," + s)
			for _, x := range forms(l.V) {
				for _, y := range forms(l.S) {
					m := api.Line{On: true, V: x, S: y}
					is(t, v+","+s, timeText(solve.Passes(m)), timeText(solve.Passes(l)))
					is(t, v+","+s, timeText(solve.Next([]api.Line{m})), timeText(solve.Passes(l)))
					for _, dt := range []string{"0", "1/2", "-3", long} {
						for _, z := range forms(rat(dt)) {
							is(t, v+","+s+" "+dt, text(solve.At(m, z)), text(solve.At(l, rat(dt))))
							is(t, v+","+s+" "+dt, marks(solve.Passed([]api.Line{m}, z)), marks(solve.Passed([]api.Line{l}, rat(dt))))
							m.On = false
							is(t, "~"+v+","+s+" "+dt, text(solve.At(m, z)), "0")
							m.On = true
						}
					}
				}
			}
		}
	}
}
