package exec

import (
	"foliot/api"
	"foliot/ratio"
)

// faults is how many bits a number may have, and what went wrong since that was said.
type faults struct {
	bits     int
	div, big bool
}

// begin says how many bits a number may have; nothing is wrong yet.
func (f *faults) begin(bits int) { *f = faults{bits: bits} }

// wrong tells whether anything divided by nought, and whether anything was too big.
func (f *faults) wrong() (bool, bool) { return f.div, f.big }

// number is one that counts as computed. It comes as ratio tells it.
func (f *faults) number(r api.Rat) api.Value {
	if ratio.Bits(r) > f.bits {
		f.big = true
		return api.Value{}
	}
	return api.Value{Kind: api.VNum, Num: r}
}

// quotient is a number that is worked out of a / b; nothing, if b is nought.
func (f *faults) quotient(a, b api.Rat, of func(quotient api.Rat) api.Rat) api.Value {
	q, err := ratio.Div(a, b)
	if err != api.OK {
		f.div = true
		return api.Value{}
	}
	return f.number(of(q))
}
