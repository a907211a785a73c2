package sample

import (
	"slices"

	"foliot/api"
)

// Lengthen puts numbers behind the ends of a flat program's lists of places, where nobody may write.
func Lengthen(f *api.Flat) {
	eachRow(f, func(row *[]int) { *row = append(slices.Clone(*row), 70, 80, 90)[:len(*row)] })
}

// Lengthened tells whether those numbers are still there.
func Lengthened(f api.Flat) bool {
	are := true
	eachRow(&f, func(row *[]int) {
		n := len(*row)
		are = are && cap(*row) >= n+3 && slices.Equal((*row)[n:n+3], []int{70, 80, 90})
	})
	return are
}

// eachRow goes through a flat program's lists of places.
func eachRow(f *api.Flat, do func(row *[]int)) {
	do(&f.Outs)
	do(&f.Again)
	for i := range f.Eqs {
		do(&f.Eqs[i].Args)
	}
	for i := range f.Mems {
		do(&f.Mems[i].Resets)
	}
	for i := range f.Conts {
		do(&f.Conts[i].Resets)
	}
	for i := range f.Cross {
		for k := range f.Cross[i].Ops {
			do(&f.Cross[i].Ops[k].Args)
		}
	}
}
