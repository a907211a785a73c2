package exec

import "foliot/api"

// rate is how a state goes on, if it does.
type rate struct {
	goes bool
	by   api.Value
}

// line is a value, and by what it goes on.
type line struct{ v, s api.Value }

// isOn tells whether a line has two numbers.
func (l line) isOn() bool { return l.v.Kind == api.VNum && l.s.Kind == api.VNum }

// told is a line in memory of its own; nothing, if it has not two numbers.
func (l line) told() api.Line {
	if !l.isOn() {
		return api.Line{}
	}
	return api.Line{On: true, V: ownNumber(l.v.Num), S: ownNumber(l.s.Num)}
}

// slope is by what a state goes on: what stands behind the first guard that is below 0 or true.
func (m *Machine) slope(pairs []int) api.Value {
	for ; len(pairs) > 0; pairs = pairs[2:] {
		if m.isOn(pairs[0]) {
			return m.slots[pairs[1]]
		}
	}
	return nought()
}

// state is a state's line, and whether it goes on; where it does not, it stays.
func (m *Machine) state(k int) (line, bool) {
	r := m.rates[k]
	if !r.goes {
		r.by = nought()
	}
	return line{m.conts[k], r.by}, r.goes
}

// cross does an instruction of Cross; what crossings ask goes to asked.
func (m *Machine) cross(x api.Ins, asked []line) {
	on := m.isOn(x.Guard)
	switch {
	case x.Op == "ask" && on:
		asked[x.K] = m.lines[x.Args[0]]
	case x.Op == "ask":
	case on:
		m.lines[x.Dst] = m.line(x)
	default:
		m.lines[x.Dst] = line{}
	}
}

// line is what an instruction of Cross that is on tells a line.
func (m *Machine) line(x api.Ins) line {
	switch x.Op {
	case "lvar":
		return line{m.slots[x.Args[0]], nought()}
	case "lcont":
		l, _ := m.state(x.K)
		return l
	case "lneg":
		a := m.lines[x.Args[0]]
		return line{m.op("neg", a.v), m.op("neg", a.s)}
	case "lsel":
		by, a, b := m.slots[x.Args[0]], m.lines[x.Args[1]], m.lines[x.Args[2]]
		return line{m.op("sel", by, a.v, b.v), m.op("sel", by, a.s, b.s)}
	}
	return m.joined(x, m.lines[x.Args[0]], m.lines[x.Args[1]])
}

// joined is what an instruction of Cross makes of two lines, of which K tells, if they are multiplied, whether the second one stays.
func (f *faults) joined(x api.Ins, a, b line) line {
	switch {
	case x.Op == "l+":
		return line{f.op("+", a.v, b.v), f.op("+", a.s, b.s)}
	case x.Op == "l-":
		return line{f.op("-", a.v, b.v), f.op("-", a.s, b.s)}
	case x.Op == "l/":
		return line{f.op("/", a.v, b.v), f.op("/", a.s, b.v)}
	case x.K == 1:
		return line{f.op("*", a.v, b.v), f.op("*", a.s, b.v)}
	}
	return line{f.op("*", a.v, b.v), f.op("*", a.v, b.s)}
}
