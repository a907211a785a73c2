package parse

import "foliot/api"

// expr reads an expr, or an arrow: these are alike, and both are open while they are read.
func (r *reader) expr() api.Expr {
	r.open()
	out := r.follow()
	if r.is("->") {
		sign := r.step()
		out = both(sign, out, r.expr())
	}
	r.close()
	return out
}

func (r *reader) follow() api.Expr {
	out := r.or()
	if r.is("fby") {
		sign := r.step()
		out = both(sign, out, r.behind())
	}
	return out
}

// behind reads what a follow is too, but that it is open.
func (r *reader) behind() api.Expr {
	r.open()
	out := r.follow()
	r.close()
	return out
}

func (r *reader) or() api.Expr { return r.left(r.and, "or") }

func (r *reader) and() api.Expr { return r.left(r.compare, "and") }

func (r *reader) compare() api.Expr {
	out := r.sum()
	if r.is("<", "<=", ">", ">=", "==", "!=") {
		sign := r.step()
		out = both(sign, out, r.sum())
	}
	return out
}

func (r *reader) sum() api.Expr { return r.left(r.product, "+", "-") }

func (r *reader) product() api.Expr { return r.left(r.unary, "*", "/", "div", "mod") }

// left reads parts that signs of one line of the grammar put together, from the left.
func (r *reader) left(part func() api.Expr, signs ...string) api.Expr {
	out := part()
	for r.is(signs...) {
		sign := r.step()
		out = both(sign, out, part())
	}
	return out
}

func (r *reader) unary() api.Expr {
	if !r.is("-", "not", "pre") {
		return r.atom()
	}
	sign := r.step()
	r.open()
	operand := r.unary()
	r.close()
	return within(api.EUn, sign, sign.Text, operand)
}

func (r *reader) atom() api.Expr {
	switch t := r.next(); t.Kind {
	case api.TNum:
		return leaf(api.ENum, r.number())
	case api.TCtor:
		return leaf(api.ECtor, r.step())
	case api.TName:
		return r.named()
	}
	switch r.next().Text {
	case "true", "false":
		return leaf(api.EBool, r.step())
	case "last":
		word := r.step()
		return api.Expr{Kind: api.ELast, Name: r.name(), Pos: word.Pos}
	case "up":
		word := r.step()
		return within(api.EUp, word, "", r.bracket())
	case "floor", "rat":
		word := r.step()
		return within(api.EUn, word, word.Text, r.bracket())
	case "if":
		return r.choice()
	case "(":
		return r.tuple()
	}
	r.refuse()
	return api.Expr{}
}

// named reads a variable, or a call, if a bracket is behind the name.
func (r *reader) named() api.Expr {
	name := r.step()
	if !r.take("(") {
		return leaf(api.EVar, name)
	}
	args := rowOrNone(r, r.expr)
	r.want(")")
	return within(api.ECall, name, name.Text, args...)
}

// bracket reads one expression in brackets.
func (r *reader) bracket() api.Expr {
	r.want("(")
	out := r.expr()
	r.want(")")
	return out
}

// tuple reads what stands in brackets: one expression is itself.
func (r *reader) tuple() api.Expr {
	bracket := r.want("(")
	parts := row(r, r.expr)
	r.want(")")
	if len(parts) == 1 {
		return parts[0]
	}
	return within(api.ETuple, bracket, "", parts...)
}

func (r *reader) choice() api.Expr {
	word := r.want("if")
	asked := r.expr()
	r.want("then")
	yes := r.expr()
	r.want("else")
	return within(api.EIf, word, "", asked, yes, r.expr())
}

// leaf tells the expression of one token.
func leaf(kind int, t api.Token) api.Expr {
	return api.Expr{Kind: kind, Name: t.Text, Pos: t.Pos}
}

// both tells the expression of two that a sign puts together.
func both(sign api.Token, first, second api.Expr) api.Expr {
	return within(api.EBin, sign, sign.Text, first, second)
}

// within tells the expression of others, at a token's place. Each expression with others in it is made here, so that none gets too deep.
func within(kind int, at api.Token, name string, args ...api.Expr) api.Expr {
	out := api.Expr{Kind: kind, Name: name, Args: args, Pos: at.Pos}
	if Depth(out) > api.MaxDepth {
		panic(tooDeep(out.Pos))
	}
	return out
}
