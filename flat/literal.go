package flat

import (
	"foliot/api"
	"foliot/ratio"
)

// valueOf tells what a literal says, with a - or without.
func valueOf(e api.Expr) api.Value {
	switch e.Kind {
	case api.EBool:
		return truth(e.Name == "true")
	case api.ECtor:
		return ctor(e.Name)
	case api.EUn:
		v := valueOf(e.Args[0])
		v.Num = ratio.Neg(v.Num)
		return v
	}
	num, _ := ratio.Parse(e.Name)
	return api.Value{Kind: api.VNum, Num: num}
}

func truth(is bool) api.Value {
	if is {
		return api.Value{Kind: api.VBool, Num: ratio.Of(1)}
	}
	return api.Value{Kind: api.VBool, Num: ratio.Of(0)}
}

func ctor(name string) api.Value { return api.Value{Kind: api.VCtor, Name: name} }
