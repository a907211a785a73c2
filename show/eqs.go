package show

import "foliot/api"

func (p *printer) eqs(l []api.Eq) {
	for _, q := range l {
		p.eq(q)
	}
}

func (p *printer) eq(q api.Eq) {
	switch q.Kind {
	case api.QDef:
		p.definition(q)
	case api.QDer:
		p.der(q)
	case api.QReset:
		p.line("reset {")
		p.inside(func() { p.eqs(q.Blocks[0]) })
		p.begin()
		p.phrase("} every ", q.Args[0])
		p.put(";\n")
	case api.QPresent:
		p.present(q)
	case api.QAuto:
		p.line("automaton")
		p.inside(func() { p.states(q.States) })
		p.line("end;")
	}
}

func (p *printer) definition(q api.Eq) {
	p.begin()
	if len(q.Names) == 1 {
		p.put(q.Names[0])
	} else {
		p.put("(")
		row(p, q.Names, p.name)
		p.put(")")
	}
	p.phrase(" = ", q.Args[0])
	p.put(";\n")
}

func (p *printer) der(q api.Eq) {
	p.begin("der ", q.Names[0])
	p.phrase(" = ", q.Args[0])
	if len(q.Init) > 0 {
		p.phrase(" init ", q.Init[0])
	}
	if len(q.Again) > 0 {
		p.phrase(" reset ", q.Again[0])
		p.phrase(" when ", q.Again[1])
	}
	p.put(";\n")
}

func (p *printer) present(q api.Eq) {
	p.begin()
	p.phrase("present ", q.Args[0])
	p.put(" then {\n")
	p.inside(func() { p.eqs(q.Blocks[0]) })
	p.line("} else {")
	p.inside(func() { p.eqs(q.Blocks[1]) })
	p.line("};")
}

func (p *printer) states(l []api.State) {
	for _, s := range l {
		p.line("state ", s.Name, " {")
		p.inside(func() { p.eqs(s.Eqs) })
		p.line("}")
		p.inside(func() { p.transitions(s.Trans) })
	}
}

func (p *printer) transitions(l []api.Trans) {
	for _, t := range l {
		word := " then "
		if t.Keep {
			word = " continue "
		}
		p.begin()
		p.phrase("until ", t.Cond)
		p.put(word, t.To, "\n")
	}
}
