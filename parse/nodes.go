package parse

import "foliot/api"

func (r *reader) program() api.Program {
	var out api.Program
	for {
		switch r.next().Text {
		case "type":
			out.Enums = append(out.Enums, r.enum())
		case "node", "hybrid":
			out.Nodes = append(out.Nodes, r.node())
		default:
			return out
		}
	}
}

func (r *reader) enum() api.Enum {
	out := api.Enum{Pos: r.want("type").Pos}
	out.Name = r.name()
	r.want("=")
	r.want("{")
	out.Ctors = row(r, r.ctor)
	r.want("}")
	r.want(";")
	return out
}

func (r *reader) node() api.Node {
	word := r.want("node", "hybrid")
	out := api.Node{Hybrid: word.Text == "hybrid", Pos: word.Pos}
	out.Name = r.name()
	r.want("(")
	out.In = rowOrNone(r, r.param)
	r.want(")")
	r.want("returns")
	r.want("(")
	out.Out = row(r, r.variable)
	r.want(")")
	out.Local = r.locals()
	r.want("let")
	out.Eqs = r.eqs()
	r.want("tel")
	return out
}

// locals reads the variables behind var, one at least, if there is a var.
func (r *reader) locals() []api.Var {
	if !r.take("var") {
		return nil
	}
	if !r.beginsVar() {
		r.refuse()
	}
	return ended(r, r.beginsVar, r.variable)
}

func (r *reader) beginsVar() bool { return r.next().Kind == api.TName }

func (r *reader) param() api.Var {
	name := r.kind(api.TName)
	r.want(":")
	return api.Var{Name: name.Text, Type: r.typeName(), Pos: name.Pos}
}

func (r *reader) variable() api.Var {
	out := r.param()
	if r.take("init") {
		out.Init = []api.Expr{r.literal()}
	}
	return out
}

func (r *reader) typeName() string {
	if r.next().Kind == api.TName {
		return r.name()
	}
	return r.want("bool", "int", "rat").Text
}

func (r *reader) literal() api.Expr {
	switch {
	case r.is("true", "false"):
		return leaf(api.EBool, r.step())
	case r.next().Kind == api.TCtor:
		return leaf(api.ECtor, r.step())
	case r.is("-"):
		sign := r.step()
		return within(api.EUn, sign, sign.Text, leaf(api.ENum, r.number()))
	}
	return leaf(api.ENum, r.number())
}
