package driver

import (
	"foliot/api"
	"foliot/cause"
	"foliot/code"
	"foliot/flat"
	"foliot/parse"
	"foliot/plan"
)

// compiled is a source's object code, and the names of its inputs; none of both, where something refuses it.
func compiled(source []byte, r *refusal) (api.Code, []string) {
	p, err, place := parse.Parse(source)
	if r.note(api.KSyntax, err, place) {
		return api.Code{}, nil
	}
	err, place = cause.Check(p)
	if r.note(api.KStatic, err, place) {
		return api.Code{}, nil
	}
	f, err, place := flat.Of(p)
	if r.note(api.KStatic, err, place) {
		return api.Code{}, nil
	}
	c, err := coded(f)
	if r.note(api.KStatic, err, 0) {
		return api.Code{}, nil
	}
	return c, f.Ins
}

// coded is a flat program's object code. Of what a check has taken it refuses nothing: there is an order (13.3).
func coded(f api.Flat) (api.Code, api.Errno) {
	p, err := plan.Of(f)
	if err != api.OK {
		return api.Code{}, err
	}
	return code.Of(f, p)
}
