package meaning

import (
	"foliot/api"
	"foliot/ratio"
)

// rate tells whether a state goes on behind an instant, and by what.
type rate struct {
	goes bool
	by   api.Value
}

// of is the line of a state that is this; what does not go on stays.
func (r rate) of(state api.Value) line {
	if !r.goes {
		return line{state, nought()}
	}
	return line{state, r.by}
}

// moved is what states are so much later; false, if one has too many bits.
func moved(states []api.Value, rates []rate, dt api.Rat, bits int) ([]api.Value, bool) {
	var out []api.Value
	for k, v := range states {
		if r := rates[k]; r.goes && r.of(v).on() {
			v.Num = r.of(v).at(dt)
			if ratio.Bits(v.Num) > bits {
				return nil, false
			}
		}
		out = append(out, v)
	}
	return out, true
}

// even is a sum, a difference, an opposite, a quotient by what stays: of what it is, and of how it goes on.
func (f *faults) even(sign string, l ...line) line {
	switch {
	case len(l) == 1:
		return line{f.op("neg", l[0].v), f.op("neg", l[0].s)}
	case sign == "/":
		return line{f.op("/", l[0].v, l[1].v), f.op("/", l[0].s, l[1].v)}
	}
	return line{f.op(sign, l[0].v, l[1].v), f.op(sign, l[0].s, l[1].s)}
}

// product is that of two lines, of which the second one stays, or else the first one.
func (f *faults) product(a, b line, second bool) line {
	if second {
		return line{f.op("*", a.v, b.v), f.op("*", a.s, b.v)}
	}
	return line{f.op("*", a.v, b.v), f.op("*", a.v, b.s)}
}

// choice is one of two lines.
func (f *faults) choice(cond api.Value, a, b line) line {
	return line{f.op("sel", cond, a.v, b.v), f.op("sel", cond, a.s, b.s)}
}
