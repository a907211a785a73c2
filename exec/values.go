package exec

import (
	"slices"

	"foliot/api"
	"foliot/ratio"
)

func truth(is bool) api.Value {
	if is {
		return api.Value{Kind: api.VBool, Num: ratio.Of(1)}
	}
	return api.Value{Kind: api.VBool, Num: ratio.Of(0)}
}

func nought() api.Value { return api.Value{Kind: api.VNum, Num: ratio.Of(0)} }

func isNothing(v api.Value) bool { return v.Kind == api.VNil }

func isTrue(v api.Value) bool { return v.Kind == api.VBool && ratio.Sign(v.Num) != 0 }

func isNotTrue(v api.Value) bool { return !isTrue(v) }

// isSame tells whether two values that are not nothing are ==.
func isSame(a, b api.Value) bool {
	switch {
	case a.Kind != b.Kind:
		return false
	case a.Kind == api.VCtor:
		return a.Name == b.Name
	}
	return ratio.Cmp(a.Num, b.Num) == 0
}

// floor is the greatest integer that is not above a number, as a number.
func floor(a api.Rat) api.Rat { return ratio.Norm(api.Rat{Num: ratio.Floor(a), Den: []uint32{1}}) }

// each tells what each of a row becomes.
func each[T, U any](row []T, becomes func(x T) U) []U {
	out := make([]U, len(row))
	for i, x := range row {
		out[i] = becomes(x)
	}
	return out
}

// ownNumber is the same number, in memory of its own.
func ownNumber(r api.Rat) api.Rat {
	return api.Rat{Num: api.Int{Neg: r.Num.Neg, Mag: slices.Clone(r.Num.Mag)}, Den: slices.Clone(r.Den)}
}

// own is the same value, in memory of its own.
func own(v api.Value) api.Value {
	v.Num = ownNumber(v.Num)
	return v
}

// plain is a value of object code in memory of its own, without what nothing and a number do not need; a number as it is told.
func plain(v api.Value) api.Value {
	switch v.Kind {
	case api.VNil:
		return api.Value{}
	case api.VNum:
		return api.Value{Kind: api.VNum, Num: ratio.Norm(v.Num)}
	}
	return own(v)
}

// ownCode is the same object code in memory of its own, its values plain.
func ownCode(c api.Code) api.Code {
	c.Mems, c.Conts = each(c.Mems, plain), each(c.Conts, plain)
	c.Step, c.Deriv, c.Cross = each(c.Step, ownIns), each(c.Deriv, ownIns), each(c.Cross, ownIns)
	return c
}

func ownIns(x api.Ins) api.Ins {
	x.Args, x.Resets, x.Lit = slices.Clone(x.Args), slices.Clone(x.Resets), plain(x.Lit)
	return x
}
