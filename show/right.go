package show

import (
	"slices"
	"strings"

	"foliot/api"
	"foliot/lex"
	"foliot/parse"
)

// all tells whether something holds of each thing of a list.
func all[T any](l []T, holds func(T) bool) bool {
	return !slices.ContainsFunc(l, func(x T) bool { return !holds(x) })
}

// token tells whether a text is a token of a kind. A name may be longer than a source may: then it is one, if each piece of it is; the pieces are so long that none of them is a word by itself.
func token(kind int, text string) bool {
	for len(text) > api.MaxSource {
		if !lex.Right(api.Token{Kind: kind, Text: text[:api.MaxSource]}) {
			return false
		}
		text = text[:1] + text[api.MaxSource/2:]
	}
	return lex.Right(api.Token{Kind: kind, Text: text})
}

func rightName(name string) bool { return token(api.TName, name) }

func rightCtor(name string) bool { return token(api.TCtor, name) }

func rightNumber(text string) bool {
	units, parts, _ := strings.Cut(text, ".")
	return len(units) <= api.MaxDigits && len(parts) <= api.MaxDigits && token(api.TNum, text)
}

func rightType(name string) bool {
	return name == "bool" || name == "int" || name == "rat" || rightName(name)
}

func rightEnum(e api.Enum) bool {
	return rightName(e.Name) && len(e.Ctors) > 0 && all(e.Ctors, rightCtor)
}

func rightNode(n api.Node) bool {
	return rightName(n.Name) && len(n.Out) > 0 && all(n.In, rightParam) && all(n.Out, rightVar) && all(n.Local, rightVar) && all(n.Eqs, rightEq)
}

func rightParam(v api.Var) bool {
	return rightName(v.Name) && rightType(v.Type) && len(v.Init) == 0
}

func rightVar(v api.Var) bool {
	return rightName(v.Name) && rightType(v.Type) && len(v.Init) <= 1 && all(v.Init, rightLiteral)
}

func rightLiteral(e api.Expr) bool { return literal(e) && RightExpr(e) }

// literal tells whether an expression has a literal's form.
func literal(e api.Expr) bool {
	switch e.Kind {
	case api.EBool, api.ENum, api.ECtor:
		return true
	}
	return negative(e)
}

// negative tells whether an expression has the form of a literal with a - ahead.
func negative(e api.Expr) bool {
	return e.Kind == api.EUn && e.Name == "-" && len(e.Args) == 1 && e.Args[0].Kind == api.ENum
}

// rightParts tells whether all that is part of an expression is as it must be, however deep it is.
func rightParts(e api.Expr) bool {
	return rightHead(e) && rightCount(e) && all(e.Args, rightParts)
}

// rightHead tells whether an expression has a Name that one of its kind may have.
func rightHead(e api.Expr) bool {
	switch e.Kind {
	case api.EBool:
		return e.Name == "true" || e.Name == "false"
	case api.ENum:
		return rightNumber(e.Name)
	case api.ECtor:
		return rightCtor(e.Name)
	case api.EVar, api.ELast, api.ECall:
		return rightName(e.Name)
	case api.EUn:
		return aheadOfOne(e.Name)
	case api.EBin:
		return betweenTwo(e.Name)
	case api.EIf, api.EUp, api.ETuple:
		return e.Name == ""
	}
	return false
}

// aheadOfOne tells whether a word or sign is one that stands ahead of one expression.
func aheadOfOne(name string) bool {
	words := [...]string{"-", "not", "pre", "floor", "rat"}
	return slices.Contains(words[:], name)
}

// betweenTwo tells whether a word or sign is one that puts two expressions together.
func betweenTwo(name string) bool {
	words := [...]string{"+", "-", "*", "/", "div", "mod", "<", "<=", ">", ">=", "==", "!=", "and", "or", "fby", "->"}
	return slices.Contains(words[:], name)
}

// rightCount tells whether an expression has as many Args as one of its kind must have.
func rightCount(e api.Expr) bool {
	switch e.Kind {
	case api.EUn, api.EUp:
		return len(e.Args) == 1
	case api.EBin:
		return len(e.Args) == 2
	case api.EIf:
		return len(e.Args) == 3
	case api.ETuple:
		return len(e.Args) >= 2
	case api.ECall:
		return true
	}
	return len(e.Args) == 0
}

// counts tells how many of everything an equation has.
type counts struct {
	names, args, init, again, blocks, states int
}

func countsOf(q api.Eq) counts {
	return counts{len(q.Names), len(q.Args), len(q.Init), len(q.Again), len(q.Blocks), len(q.States)}
}

// countsWanted tells what an equation must have; of what there may be more or less of it is what the equation has, if that may be. No equation has what one of no kind must have.
func countsWanted(q api.Eq) counts {
	switch q.Kind {
	case api.QDef:
		return counts{names: max(1, len(q.Names)), args: 1}
	case api.QDer:
		return counts{names: 1, args: 1, init: min(1, len(q.Init)), again: 2 * min(1, len(q.Again))}
	case api.QReset:
		return counts{args: 1, blocks: 1}
	case api.QPresent:
		return counts{args: 1, blocks: 2}
	case api.QAuto:
		return counts{states: max(1, len(q.States))}
	}
	return counts{names: -1}
}

// rightEq tells whether an equation of a node is right: none within it can be too deep, if it is not.
func rightEq(q api.Eq) bool {
	return parse.EqDepth(q) <= api.MaxDepth && rightEqParts(q)
}

func rightEqParts(q api.Eq) bool {
	return countsOf(q) == countsWanted(q) && all(q.Names, rightName) && all(q.Args, rightParts) && all(q.Init, rightParts) && all(q.Again, rightParts) && all(q.Blocks, rightBlock) && all(q.States, rightState)
}

func rightBlock(l []api.Eq) bool { return all(l, rightEqParts) }

func rightState(s api.State) bool {
	return rightCtor(s.Name) && rightBlock(s.Eqs) && all(s.Trans, rightTrans)
}

func rightTrans(t api.Trans) bool { return rightCtor(t.To) && rightParts(t.Cond) }
