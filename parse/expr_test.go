package parse_test

import (
	"math/rand"
	"reflect"
	"strings"
	"testing"

	"foliot/api"
	"foliot/lex"
	"foliot/parse"
)

// told writes an expression with a bracket around each that has others in it, and with its place.
func told(e api.Expr) string {
	var args []string
	for _, a := range e.Args {
		args = append(args, told(a))
	}
	kind := map[int]string{api.ELast: "last ", api.ECall: "call ", api.EIf: "if", api.EUp: "up", api.ETuple: "tuple"}[e.Kind]
	if len(args) == 0 && e.Kind != api.ECall {
		return kind + e.Name
	}
	return "(" + strings.TrimSpace(kind+e.Name+" "+strings.Join(args, " ")) + ")"
}

func TestHowSignsArePutTogether(t *testing.T) {
	// 5.2
	for src, want := range map[string]string{
		"1 - 2 - 3": "(- (- 1 2) 3)", "a -> b -> c": "(-> a (-> b c))", "a fby b fby c": "(fby a (fby b c))",
		"1 - 2 + 3 - 4": "(- (+ (- 1 2) 3) 4)", "1 / 2 * 3 div 4 mod 5": "(mod (div (* (/ 1 2) 3) 4) 5)", "a or b or c": "(or (or a b) c)", "a and b and c": "(and (and a b) c)",
		"a fby b -> c fby d -> e": "(-> (fby a b) (-> (fby c d) e))", "a or b fby c or d": "(fby (or a b) (or c d))", "a and b or c and d": "(or (and a b) (and c d))",
		"a < b and c >= d": "(and (< a b) (>= c d))", "a + b <= c - d": "(<= (+ a b) (- c d))", "a == b": "(== a b)", "a != b": "(!= a b)", "a > b": "(> a b)",
		"a + b * c - d": "(- (+ a (* b c)) d)", "- a * b": "(* (- a) b)", "a * - b": "(* a (- b))", "- - a": "(- (- a))", "not pre - a": "(not (pre (- a)))", "not a and b": "(and (not a) b)", "pre a + b": "(+ (pre a) b)",
		"not a < b": "(< (not a) b)", "pre f(x)": "(pre (call f x))", "a - -1": "(- a (- 1))", "(a -> b) -> c": "(-> (-> a b) c)", "(a < b) < c": "(< (< a b) c)", "a * (b + c)": "(* a (+ b c))",
		"f()": "(call f)", "f(a)": "(call f a)", "f((a))": "(call f a)", "f((a, b))": "(call f (tuple a b))", "f(a, b -> c)": "(call f a (-> b c))", "f (x)": "(call f x)", "((x))": "x",
		"last x": "last x", "- last x": "(- last x)", "last x + 1": "(+ last x 1)", "up(x - 1)": "(up (- x 1))", "floor(x)": "(floor x)", "rat(x) + 1": "(+ (rat x) 1)", "floor((x))": "(floor x)",
		"(a, b)": "(tuple a b)", "(a, (b, c), d)": "(tuple a (tuple b c) d)", "((a, b), c)": "(tuple (tuple a b) c)", "(a, b) + c": "(+ (tuple a b) c)",
		"if a then b else c": "(if a b c)", "if a then b else c + d": "(if a b (+ c d))", "if a then b else c -> d": "(if a b (-> c d))", "1 + if a then b else c + d": "(+ 1 (if a b (+ c d)))",
		"- if a then b else c * d": "(- (if a b (* c d)))", "if if a then b else c then d else e": "(if (if a b c) d e)", "if a then if b then c else d else e": "(if a (if b c d) e)", "if a then b else if c then d else e": "(if a b (if c d e))",
		"if a then b else c < d < e": "(< (if a b (< c d)) e)", "a fby if b then c else d fby e": "(fby a (if b c (fby d e)))", "x -> if a then b else c -> d": "(-> x (if a b (-> c d)))",
		"true": "true", "false or A": "(or false A)", "1.50": "1.50", "007": "007",
	} {
		if e := takesExpr(t, src); told(e) != want {
			t.Errorf("%s: %s, not %s", src, told(e), want)
		}
	}
}

func TestPlacesOfExpressions(t *testing.T) {
	// 5.2: of two that a sign puts together the sign's; of others that of the first token.
	for src, want := range map[string][]int{
		" x": {1}, "(x)": {1}, "x + y": {2, 0, 4}, "x and y": {2, 0, 6}, "x fby y": {2, 0, 6}, "x->y": {1, 0, 3}, "(x + (y))": {3, 1, 6}, "- x": {0, 2}, "(- x)": {1, 3}, "not x": {0, 4},
		"f(x, y)": {0, 2, 5}, "( x , y )": {0, 2, 6}, "((x, y))": {1, 2, 5}, " last x": {1}, "up (x)": {0, 4}, "floor(x)": {0, 6}, "rat(x)": {0, 4}, "if x then y else z": {0, 3, 10, 17},
		"1 - 2 - 3": {6, 2, 0, 4, 8}, "a -> b -> c": {2, 0, 7, 5, 10}, "x div y": {2, 0, 6}, "x < y": {2, 0, 4}, "(x, y) mod z": {7, 0, 1, 4, 11},
	} {
		if places := placesOf(takesExpr(t, src)); !reflect.DeepEqual(places, want) {
			t.Errorf("%s: %v, not %v", src, places, want)
		}
	}
}

// placesOf tells an expression's places, itself ahead of its Args.
func placesOf(e api.Expr) []int {
	out := []int{e.Pos}
	for _, a := range e.Args {
		out = append(out, placesOf(a)...)
	}
	return out
}

func TestKindsOfExpressions(t *testing.T) {
	// 5.2
	x := []api.Expr{{Kind: api.EVar, Name: "x"}}
	for src, want := range map[string]api.Expr{
		"true": {Kind: api.EBool, Name: "true"}, "1.5": {Kind: api.ENum, Name: "1.5"}, "A_b": {Kind: api.ECtor, Name: "A_b"}, "x": {Kind: api.EVar, Name: "x"}, "last x": {Kind: api.ELast, Name: "x"},
		"- x": {Kind: api.EUn, Name: "-", Args: x}, "not x": {Kind: api.EUn, Name: "not", Args: x}, "pre x": {Kind: api.EUn, Name: "pre", Args: x}, "floor(x)": {Kind: api.EUn, Name: "floor", Args: x}, "rat(x)": {Kind: api.EUn, Name: "rat", Args: x},
		"up(x)": {Kind: api.EUp, Args: x}, "f()": {Kind: api.ECall, Name: "f"}, "f(x)": {Kind: api.ECall, Name: "f", Args: x}, "(x, x)": {Kind: api.ETuple, Args: append(x, x...)},
		"if x then x else x": {Kind: api.EIf, Args: append(x, x[0], x[0])}, "x fby x": {Kind: api.EBin, Name: "fby", Args: append(x, x...)}, "x div x": {Kind: api.EBin, Name: "div", Args: append(x, x...)},
	} {
		e := takesExpr(t, src)
		flatExpr(&e)
		if !reflect.DeepEqual(e, want) {
			t.Errorf("%s: %v, not %v", src, e, want)
		}
	}
}

func TestWantedPlacesOfExpressions(t *testing.T) {
	// 5.2
	for src, place := range map[string]int{
		"": 0, "  ": 2, "a < b < c": 6, "a == b != c": 7, "x x": 2, "x 1": 2, "1 x": 2, "x;": 1, "x = y": 2, "x :": 2, "x | y": 2, ")": 0, "()": 1, "(x": 2, "(x,": 3, "(x,)": 3, "(,x)": 1, "(x))": 3, "(x y)": 3,
		"f(": 2, "f(x": 3, "f(x,)": 4, "f(,)": 2, "f()()": 3, "f(x)(y)": 4, "1(x)": 1, "A(x)": 1, "(f)(x)": 3, "last": 4, "last 1": 5, "last A": 5, "last (x)": 5, "last last x": 5, "last true": 5,
		"up": 2, "up x": 3, "up()": 3, "up(x, y)": 4, "floor": 5, "floor x": 6, "floor(x, y)": 7, "rat()": 4, "rat 1": 4, "int(x)": 0, "bool(x)": 0,
		"if": 2, "if a": 4, "if a else": 5, "if a then": 9, "if a then b": 11, "if a then b then": 12, "if a then b else": 16, "if a then b else c else": 19,
		"-": 1, "+ x": 0, "x + + y": 4, "x - - ": 6, "x * not": 7, "* x": 0, "x or": 4, "or x": 0, "x and and": 6, "x ->": 4, "x -> -> y": 5, "x fby": 5, "fby x": 0, "x fby fby y": 6, "not": 3, "pre": 3, "x not y": 2, "x pre y": 2,
		"a -> b fby c < d < e": 17, "x init 1": 2, "der x": 0, "reset": 0, "a when b": 2, "(a -> b": 7, "(a + b;": 6,
		"x < y + (z == w == v)": 16,
	} {
		refusesExpr(t, src, api.ErrWant, place)
	}
}

func TestExpressionsOfTheGrammar(t *testing.T) {
	// 5.2: each expression that the grammar says is taken, as the tree that it says.
	for seed := range int64(4000) {
		src, want := shallowExpr(seed, int(seed%80))
		if e := takesExpr(t, src); !reflect.DeepEqual(e, want) {
			t.Fatalf("%s:\n%v\n%v", src, e, want)
		}
	}
}

// shallowExpr tells a random expression that is not too deep, and its source.
func shallowExpr(seed int64, size int) (string, api.Expr) {
	for ; ; seed += 1 << 32 {
		w := newWriter(seed, size)
		if e := w.expr(); depth(e) <= api.MaxDepth {
			return w.text.String(), e
		}
	}
}

func TestWantedPlacesOfExpressionsOfTheGrammar(t *testing.T) {
	// 5.2: of sources that are spoilt somewhere, against a reader of the grammar's own text.
	g := readGrammar()
	counts := map[api.Errno]int{}
	for seed := range int64(1200) {
		r := rand.New(rand.NewSource(seed))
		whole, _ := shallowExpr(seed, r.Intn(30))
		src := strings.Join(spoilt(r, tokensOf(whole)), " ")
		tokens := tokensOf(src)
		_, err, n := parse.ParseExpr([]byte(src))
		counts[err]++
		at := g.refused("expr", tokens)
		if at < 0 && err != api.OK || at >= 0 && (err != api.ErrWant || n != tokens[at].Pos) {
			t.Fatalf("%s: %v at %d, not %d", src, err, n, at)
		}
	}
	if counts[api.OK] < 100 || counts[api.ErrWant] < 500 {
		t.Error(counts)
	}
}

func TestMemoryOfParseExpr(t *testing.T) {
	// R4: a source is neither changed nor kept, and no two lists are one.
	for seed := range int64(500) {
		src, want := shallowExpr(seed, 60)
		b := []byte(src)
		e, _, _ := parse.ParseExpr(b)
		if string(b) != src {
			t.Fatal("a source was changed")
		}
		clear(b)
		growExprs(e.Args)
		if !reflect.DeepEqual(e, want) {
			t.Fatal("a source was kept, or two lists are one")
		}
	}
}

func TestBlanksDoNotCount(t *testing.T) {
	// 5.3
	for seed := range int64(500) {
		src, want := shallowExpr(seed, 60)
		e := takesExpr(t, string(lex.Spell(tokensOf(src))))
		flatExpr(&e)
		flatExpr(&want)
		if !reflect.DeepEqual(e, want) {
			t.Fatal(src)
		}
	}
}
