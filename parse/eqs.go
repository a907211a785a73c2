package parse

import "foliot/api"

// eqs reads a block's equations; they are open while they are read, be there none.
func (r *reader) eqs() []api.Eq {
	r.open()
	out := ended(r, r.beginsEq, r.eq)
	r.close()
	return out
}

// block reads equations in braces.
func (r *reader) block() []api.Eq {
	r.want("{")
	out := r.eqs()
	r.want("}")
	return out
}

func (r *reader) beginsEq() bool {
	return r.next().Kind == api.TName || r.is("(", "der", "reset", "present", "automaton")
}

// eq reads one equation, and asks how deep it is once it is whole.
func (r *reader) eq() api.Eq {
	place := r.next().Pos
	out := r.anyEq()
	out.Pos = place
	if EqDepth(out) > api.MaxDepth {
		panic(tooDeep(place))
	}
	return out
}

func (r *reader) anyEq() api.Eq {
	switch r.next().Text {
	case "der":
		return r.der()
	case "reset":
		return r.reset()
	case "present":
		return r.present()
	case "automaton":
		return r.automaton()
	}
	return r.definition()
}

func (r *reader) definition() api.Eq {
	names := r.pattern()
	r.want("=")
	return api.Eq{Kind: api.QDef, Names: names, Args: []api.Expr{r.expr()}}
}

// pattern reads a name, or two of them and more in brackets.
func (r *reader) pattern() []string {
	if !r.take("(") {
		return []string{r.name()}
	}
	first := []string{r.name()}
	r.want(",")
	names := append(first, row(r, r.name)...)
	r.want(")")
	return names
}

func (r *reader) der() api.Eq {
	r.want("der")
	names := []string{r.name()}
	r.want("=")
	out := api.Eq{Kind: api.QDer, Names: names, Args: []api.Expr{r.expr()}}
	if r.take("init") {
		out.Init = []api.Expr{r.expr()}
	}
	if r.take("reset") {
		value := r.expr()
		r.want("when")
		out.Again = []api.Expr{value, r.expr()}
	}
	return out
}

func (r *reader) reset() api.Eq {
	r.want("reset")
	block := r.block()
	r.want("every")
	return api.Eq{Kind: api.QReset, Args: []api.Expr{r.expr()}, Blocks: [][]api.Eq{block}}
}

func (r *reader) present() api.Eq {
	r.want("present")
	asked := r.expr()
	r.want("then")
	yes := r.block()
	r.want("else")
	return api.Eq{Kind: api.QPresent, Args: []api.Expr{asked}, Blocks: [][]api.Eq{yes, r.block()}}
}

func (r *reader) automaton() api.Eq {
	r.want("automaton")
	states := []api.State{r.state()}
	for r.is("state") {
		states = append(states, r.state())
	}
	r.want("end")
	return api.Eq{Kind: api.QAuto, States: states}
}

func (r *reader) state() api.State {
	out := api.State{Pos: r.want("state").Pos}
	out.Name = r.ctor()
	out.Eqs = r.block()
	for r.is("until") {
		out.Trans = append(out.Trans, r.transition())
	}
	return out
}

func (r *reader) transition() api.Trans {
	out := api.Trans{Pos: r.want("until").Pos}
	out.Cond = r.expr()
	out.Keep = r.want("then", "continue").Text == "continue"
	out.To = r.ctor()
	return out
}
