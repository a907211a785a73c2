package names

import "foliot/api"

// told is a name that equations tell, and whether as a der.
type told struct {
	name string
	der  bool
}

// toldByAll is what is told of a row of equations: each name once.
func (s *scope) toldByAll(l []api.Eq) []told {
	var out []told
	names := set{}
	for _, q := range l {
		for _, t := range s.toldBy(q) {
			must(names.add(t.name), api.ErrTwice, q.Pos)
			out = append(out, t)
		}
	}
	return out
}

// toldBy is what is told of an equation.
func (s *scope) toldBy(q api.Eq) []told {
	switch q.Kind {
	case api.QReset:
		return s.toldByAll(q.Blocks[0])
	case api.QPresent, api.QAuto:
		return s.joined(s.toldByEach(q), q.Pos)
	}
	var out []told
	for _, name := range q.Names {
		out = append(out, told{name, q.Kind == api.QDer})
	}
	return out
}

// toldByEach is what is told of each block of a present, or state of an automaton.
func (s *scope) toldByEach(q api.Eq) [][]told {
	var out [][]told
	for _, block := range q.Blocks {
		out = append(out, s.toldByAll(block))
	}
	for _, x := range q.States {
		out = append(out, s.toldByAll(x.Eqs))
	}
	return out
}

// tellers is how many blocks tell a name, as a der and otherwise.
type tellers struct {
	ders, others int
}

// joined puts together what is told of blocks of which just one is active: where the others do not tell a name too, or as a der, there must be something that it was before.
func (s *scope) joined(blocks [][]told, place int) []told {
	var out []told
	by := map[string]tellers{}
	for _, block := range blocks {
		for _, t := range block {
			n := by[t.name]
			if n == (tellers{}) {
				out = append(out, t)
			}
			if t.der {
				n.ders++
			} else {
				n.others++
			}
			by[t.name] = n
		}
	}
	for _, t := range out {
		n := by[t.name]
		must(n.ders == 0 || n.others == 0, api.ErrTwice, place)
		must(n.others == len(blocks) || s.vars[t.name].init, api.ErrBranch, place)
	}
	return out
}
