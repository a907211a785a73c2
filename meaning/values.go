package meaning

import (
	"foliot/api"
	"foliot/ratio"
)

// faults is how many bits a number may have at an instant, and what went wrong there.
type faults struct {
	bits     int
	div, big bool
}

// number is one that is computed, or that comes from outside.
func (f *faults) number(r api.Rat) api.Value {
	if ratio.Bits(r) > f.bits {
		f.big = true
		return api.Value{}
	}
	return api.Value{Kind: api.VNum, Num: ratio.Norm(r)}
}

func truth(is bool) api.Value {
	v := api.Value{Kind: api.VBool, Num: ratio.Of(0)}
	if is {
		v.Num = ratio.Of(1)
	}
	return v
}

func nought() api.Value { return api.Value{Kind: api.VNum, Num: ratio.Of(0)} }

func isTrue(v api.Value) bool { return v.Kind == api.VBool && ratio.Sign(v.Num) != 0 }

func ctor(name string) api.Value { return api.Value{Kind: api.VCtor, Name: name} }

// literal is what one says, a - ahead of it or not; of what it says no bits are asked.
func literal(e api.Expr) api.Value {
	switch e.Kind {
	case api.EBool:
		return truth(e.Name == "true")
	case api.ECtor:
		return ctor(e.Name)
	case api.EUn:
		v := literal(e.Args[0])
		v.Num = ratio.Neg(v.Num)
		return v
	}
	r, _ := ratio.Parse(e.Name)
	return api.Value{Kind: api.VNum, Num: r}
}

// op is what an operation of a flat program tells of values; of nothing it tells nothing, but for those that look at truths alone.
func (f *faults) op(name string, l ...api.Value) api.Value {
	switch {
	case name == "gand":
		return areTrue(l)
	case name == "mrg":
		return merged(l)
	case l[0].Kind == api.VNil:
		return api.Value{}
	case name == "sel" && isTrue(l[0]):
		return l[1]
	case name == "sel":
		return l[2]
	case len(l) == 1:
		return f.one(name, l[0])
	case l[1].Kind == api.VNil:
		return api.Value{}
	}
	return f.two(name, l[0], l[1])
}

func areTrue(l []api.Value) api.Value {
	all := true
	for _, v := range l {
		all = all && isTrue(v)
	}
	return truth(all)
}

// merged is the first value whose guard, ahead of it, is true; else the one that is left over.
func merged(l []api.Value) api.Value {
	for len(l) > 1 {
		if isTrue(l[0]) {
			return l[1]
		}
		l = l[2:]
	}
	if len(l) == 1 {
		return l[0]
	}
	return api.Value{}
}

func (f *faults) one(name string, a api.Value) api.Value {
	switch name {
	case "not":
		return truth(!isTrue(a))
	case "neg":
		return f.number(ratio.Neg(a.Num))
	case "floor":
		return f.number(api.Rat{Num: ratio.Floor(a.Num), Den: []uint32{1}})
	case "rat":
		return f.number(a.Num)
	}
	return a
}

func (f *faults) two(name string, a, b api.Value) api.Value {
	switch name {
	case "+":
		return f.number(ratio.Add(a.Num, b.Num))
	case "-":
		return f.number(ratio.Sub(a.Num, b.Num))
	case "*":
		return f.number(ratio.Mul(a.Num, b.Num))
	case "/":
		r, err := ratio.Div(a.Num, b.Num)
		return f.quotient(r, err)
	case "div", "mod":
		q, err := ratio.Div(a.Num, b.Num)
		r := api.Rat{Num: ratio.Floor(q), Den: []uint32{1}}
		if name == "mod" {
			r = ratio.Sub(a.Num, ratio.Mul(r, b.Num))
		}
		return f.quotient(r, err)
	case "and":
		return truth(isTrue(a) && isTrue(b))
	case "or":
		return truth(isTrue(a) || isTrue(b))
	}
	return truth(compares(name, a, b))
}

func (f *faults) quotient(r api.Rat, err api.Errno) api.Value {
	if err != api.OK {
		f.div = true
		return api.Value{}
	}
	return f.number(r)
}

func compares(name string, a, b api.Value) bool {
	n := ratio.Cmp(a.Num, b.Num)
	same := a.Kind == b.Kind && (a.Kind == api.VCtor && a.Name == b.Name || a.Kind != api.VCtor && n == 0)
	switch name {
	case "<":
		return n < 0
	case "<=":
		return n <= 0
	case ">":
		return n > 0
	case ">=":
		return n >= 0
	case "==":
		return same
	}
	return !same
}
