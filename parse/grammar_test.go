package parse_test

import (
	"strings"

	"foliot/api"
	"foliot/lex"
)

// grammarText is the document's, word for word.
const grammarText = `
program = (enum | node)*
enum    = "type" NAME "=" "{" CTOR ("," CTOR)* "}" ";"
node    = ("node" | "hybrid") NAME "(" [param ("," param)*] ")" "returns" "(" var ("," var)* ")" ["var" (var ";")+] "let" eqs "tel"
param   = NAME ":" ty
var     = NAME ":" ty ["init" literal]
ty      = "bool" | "int" | "rat" | NAME
literal = "true" | "false" | CTOR | ["-"] NUM
eqs     = (eq ";")*
eq      = pat "=" expr
        | "der" NAME "=" expr ["init" expr] ["reset" expr "when" expr]
        | "reset" "{" eqs "}" "every" expr
        | "present" expr "then" "{" eqs "}" "else" "{" eqs "}"
        | "automaton" state+ "end"
state   = "state" CTOR "{" eqs "}" ("until" expr ("then" | "continue") CTOR)*
pat     = NAME | "(" NAME ("," NAME)+ ")"
expr    = follow ["->" arrow]
arrow   = follow ["->" arrow]
follow  = or ["fby" behind]
behind  = or ["fby" behind]
or      = and ("or" and)*
and     = compare ("and" compare)*
compare = sum [("<" | "<=" | ">" | ">=" | "==" | "!=") sum]
sum     = product (("+" | "-") product)*
product = unary (("*" | "/" | "div" | "mod") unary)*
unary   = ("-" | "not" | "pre") operand | atom
operand = unary
atom    = NUM | "true" | "false" | CTOR | NAME | NAME "(" [expr ("," expr)*] ")" | "last" NAME
        | ("up" | "floor" | "rat") "(" expr ")" | "(" expr ("," expr)* ")"
        | "if" expr "then" expr "else" expr
`

// grammar is rules as rows of symbols, each name with its alternatives; what stands in brackets has a name of its own.
type grammar struct {
	rules map[string][][]string
	rest  []string // what of the text is not yet read
	fresh int
}

func readGrammar() *grammar {
	g := &grammar{rules: map[string][][]string{}}
	text := strings.ReplaceAll(grammarText, "\n        |", " |")
	for _, line := range strings.Split(strings.TrimSpace(text), "\n") {
		name, right, _ := strings.Cut(line, "=")
		g.rest = grammarSigns(right)
		g.rules[strings.TrimSpace(name)] = g.choices()
	}
	return g
}

// grammarSigns cuts a rule's right side: quoted texts, names, and the signs between them.
func grammarSigns(text string) []string {
	var out []string
	for text = strings.TrimSpace(text); text != ""; text = strings.TrimSpace(text) {
		size := 1
		switch {
		case text[0] == '"':
			size = 2 + strings.Index(text[1:], `"`)
		case strings.IndexAny(text, " ()[]*+|") > 0:
			size = strings.IndexAny(text, " ()[]*+|")
		case !strings.ContainsAny(text, " ()[]*+|"):
			size = len(text)
		}
		out, text = append(out, text[:size]), text[size:]
	}
	return out
}

func (g *grammar) next() string {
	if len(g.rest) == 0 {
		return ""
	}
	return g.rest[0]
}

func (g *grammar) choices() [][]string {
	out := [][]string{g.sequence()}
	for g.next() == "|" {
		g.rest = g.rest[1:]
		out = append(out, g.sequence())
	}
	return out
}

func (g *grammar) sequence() []string {
	var out []string
	for g.next() != "" && !strings.Contains("|)]", g.next()) {
		symbol := g.next()
		g.rest = g.rest[1:]
		if symbol == "(" || symbol == "[" {
			inside := g.choices()
			if symbol == "[" {
				inside = append(inside, nil)
			}
			symbol = g.named(inside)
			g.rest = g.rest[1:]
		}
		if repeat := g.next(); repeat == "*" || repeat == "+" {
			g.rest = g.rest[1:]
			one := symbol
			symbol = g.named([][]string{nil})
			g.rules[symbol] = append(g.rules[symbol], []string{symbol, one})
			if repeat == "+" {
				out = append(out, one)
			}
		}
		out = append(out, symbol)
	}
	return out
}

func (g *grammar) named(choices [][]string) string {
	g.fresh++
	name := "#" + string(rune('0'+g.fresh/10)) + string(rune('0'+g.fresh%10))
	g.rules[name] = choices
	return name
}

// item is a rule that is read up to a place of it, begun at a token.
type item struct {
	name           string
	choice, at, of int
}

// refused tells the first token with which nothing goes on, by keeping all ways to read at once (as Earley does); -1, if all of them are the thing of that name.
func (g *grammar) refused(start string, tokens []api.Token) int {
	g.rules["^"] = [][]string{{start, "END"}}
	sets := []map[item]bool{{item{"^", 0, 0, 0}: true}}
	for n, t := range tokens {
		g.fill(sets, n)
		following := map[item]bool{}
		for i := range sets[n] {
			if symbol := g.symbol(i); symbol != "" && fits(symbol, t) {
				following[item{i.name, i.choice, i.at + 1, i.of}] = true
			}
		}
		if len(following) == 0 {
			return n
		}
		sets = append(sets, following)
	}
	return -1
}

func fits(symbol string, t api.Token) bool {
	switch symbol {
	case "NAME":
		return t.Kind == api.TName
	case "CTOR":
		return t.Kind == api.TCtor
	case "NUM":
		return t.Kind == api.TNum
	case "END":
		return t.Kind == api.TEnd
	}
	return symbol == `"`+t.Text+`"`
}

func (g *grammar) symbol(i item) string {
	if rule := g.rules[i.name][i.choice]; i.at < len(rule) {
		return rule[i.at]
	}
	return ""
}

// fill puts in what a set's items lead to, until nothing is new.
func (g *grammar) fill(sets []map[item]bool, n int) {
	for size := -1; size != len(sets[n]); {
		size = len(sets[n])
		var items []item
		for i := range sets[n] {
			items = append(items, i)
		}
		for _, i := range items {
			symbol := g.symbol(i)
			for c := range g.rules[symbol] {
				sets[n][item{symbol, c, 0, n}] = true
			}
			if symbol != "" {
				continue
			}
			var above []item
			for j := range sets[i.of] {
				if g.symbol(j) == i.name {
					above = append(above, item{j.name, j.choice, j.at + 1, j.of})
				}
			}
			for _, j := range above {
				sets[n][j] = true
			}
		}
	}
}

// tokensOf cuts a source that the lexer takes.
func tokensOf(text string) []api.Token {
	l, err, _ := lex.Tokens([]byte(text))
	if err != api.OK {
		panic(text)
	}
	return l
}
