package kinds_test

import (
	"math/big"
	"math/rand"
	"slices"
	"testing"

	"foliot/api"
	"foliot/kinds"
	"foliot/names"
	"foliot/sample"
	"foliot/show"
)

func TestRandomRight(t *testing.T) {
	// 10.2: programs whose kinds are right.
	for seed := range int64(1500) {
		p := sample.Kinded(dice(seed).Intn, 70)
		if why := agrees(t, p); why != "" {
			text, _ := show.Show(p)
			t.Fatalf("%s\n%s", text, why)
		}
	}
}

func TestRandomSpoiled(t *testing.T) {
	// 10.2: programs in which something was changed: each thing that may be wrong is so in many, and first.
	count := map[string]int{}
	for seed := range int64(6000) {
		r := dice(seed)
		p := sample.Kinded(r.Intn, 70)
		for range 1 + r.Intn(3) {
			spoil(r, &p)
		}
		count[agrees(t, p)]++
	}
	for _, why := range []string{"", "der in a node", "slope", "up in a node", "up of 2", "call in a node"} {
		if count[why] < 40 {
			t.Error(why, count)
		}
	}
}

func TestRandomAny(t *testing.T) {
	// 10.2: programs that were made without a look at kinds.
	count := map[string]int{}
	for seed := range int64(1500) {
		count[agrees(t, sample.Program(dice(seed).Intn, 70))]++
	}
	for _, why := range []string{"", "der in a node", "slope", "up in a node", "up of 2", "call in a node"} {
		if count[why] < 20 {
			t.Error(why, count)
		}
	}
}

// somebodies picks some of a node's variables of a type, or of any one.
func somebodies(r *rand.Rand, n api.Node, of string) []string {
	var out []string
	for _, v := range slices.Concat(n.In, n.Out, n.Local) {
		if (v.Type == of || of == "") && r.Intn(2) == 0 {
			out = append(out, v.Name)
		}
	}
	return out
}

func TestRandomExprs(t *testing.T) {
	// 10.1, 10.3: expressions of programs, with their ders, and with any.
	count, even := [3]int{}, 0
	for seed := range int64(1500) {
		r := dice(seed)
		p := []func(func(int) int, int) api.Program{sample.Program, sample.Kinded}[seed%2](r.Intn, 70)
		for _, n := range p.Nodes {
			for _, e := range exprsIn(n.Eqs) {
				count[agreesOf(t, *e, names.Ders(n))]++
				count[agreesOf(t, *e, somebodies(r, n, ""))]++
				count[goesOn(t, r, n, *e, names.Ders(n))]++
				if goesOn(t, r, n, *e, somebodies(r, n, "rat")) == 1 && len(e.Args) > 0 {
					even++
				}
			}
		}
	}
	if min(count[0], count[1], count[2]) < 5000 || even < 500 {
		t.Error(count, even)
	}
}

// What an expression is at some times, while ders go on evenly and all else stays: numbers, truths being 0 and 1, constructors any; nil is nothing.

// times gives variables what they are.
type times struct {
	now         *big.Rat
	from, slope map[string]*big.Rat // of all variables; slopes of ders alone
	last        map[string]*big.Rat
}

// goesOn asks of what an expression is at times that it does what its kind promises, and tells that.
func goesOn(t *testing.T, r *rand.Rand, n api.Node, e api.Expr, ders []string) int {
	t.Helper()
	kind := kinds.Of(e, ders)
	if kind == 2 || e.Kind == api.ETuple {
		return kind
	}
	at := times{from: map[string]*big.Rat{}, slope: map[string]*big.Rat{}, last: map[string]*big.Rat{}}
	for _, v := range slices.Concat(n.In, n.Out, n.Local) {
		at.from[v.Name], at.last[v.Name] = number(r, v.Type), number(r, v.Type)
		if slices.Contains(ders, v.Name) {
			at.slope[v.Name] = number(r, "rat")
		}
	}
	var l []*big.Rat
	for i := range int64(4) {
		at.now = big.NewRat(i*i+i, 3) // 0, 2/3, 2, 4
		l = append(l, at.value(t, e))
	}
	if slices.Contains(l, nil) {
		if slices.ContainsFunc(l, func(x *big.Rat) bool { return x != nil }) {
			t.Fatal(e, l)
		}
		return kind
	}
	steps := []*big.Rat{minus(l[1], l[0]), minus(l[2], l[1]), minus(l[3], l[2])} // in 2/3, 4/3, 6/3
	for i, d := range steps {
		want := new(big.Rat).Mul(steps[0], big.NewRat(int64(i+1), 1))
		if d.Cmp(want) != 0 || kind == 0 && d.Sign() != 0 {
			text, _ := show.ShowExpr(e)
			t.Fatalf("%s: %d %v %v", text, kind, ders, l)
		}
	}
	return kind
}

func minus(a, b *big.Rat) *big.Rat { return new(big.Rat).Sub(a, b) }

func number(r *rand.Rand, of string) *big.Rat {
	switch of {
	case "rat":
		return big.NewRat(int64(r.Intn(9)-4), int64(1+r.Intn(4)))
	case "int":
		return big.NewRat(int64(r.Intn(9)-4), 1)
	}
	return big.NewRat(int64(r.Intn(2)), 1)
}

func truth(holds bool) *big.Rat {
	if holds {
		return big.NewRat(1, 1)
	}
	return new(big.Rat)
}

func (at times) value(t *testing.T, e api.Expr) *big.Rat {
	var l []*big.Rat
	for _, a := range e.Args {
		x := at.value(t, a)
		if x == nil {
			return nil
		}
		l = append(l, x)
	}
	switch e.Kind {
	case api.EBool:
		return truth(e.Name == "true")
	case api.ENum:
		x, _ := new(big.Rat).SetString(e.Name)
		return x
	case api.ECtor:
		return big.NewRat(int64(e.Name[1]), 1)
	case api.ELast:
		return at.last[e.Name]
	case api.EVar:
		if s, there := at.slope[e.Name]; there {
			return new(big.Rat).Add(at.from[e.Name], new(big.Rat).Mul(s, at.now))
		}
		return at.from[e.Name]
	case api.EIf:
		if l[0].Sign() == 0 {
			return l[2]
		}
		return l[1]
	case api.EUn:
		return one(t, e.Name, l[0])
	case api.EBin:
		return two(t, e.Name, l[0], l[1])
	}
	t.Fatal("only an instant tells", e)
	return nil
}

func floor(x *big.Rat) *big.Rat {
	q, _ := new(big.Int).DivMod(x.Num(), x.Denom(), new(big.Int))
	return new(big.Rat).SetInt(q)
}

func one(t *testing.T, sign string, x *big.Rat) *big.Rat {
	switch sign {
	case "not":
		return truth(x.Sign() == 0)
	case "-":
		return new(big.Rat).Neg(x)
	case "floor":
		return floor(x)
	case "rat":
		return x
	}
	t.Fatal("only an instant tells", sign)
	return nil
}

func two(t *testing.T, sign string, x, y *big.Rat) *big.Rat {
	switch sign {
	case "+":
		return new(big.Rat).Add(x, y)
	case "-":
		return minus(x, y)
	case "*", "and":
		return new(big.Rat).Mul(x, y)
	case "or":
		return truth(x.Sign() != 0 || y.Sign() != 0)
	case "==", "!=":
		return truth((x.Cmp(y) == 0) == (sign == "=="))
	case "<", "<=":
		return truth(x.Cmp(y) < 0 || x.Cmp(y) == 0 && sign == "<=")
	case ">", ">=":
		return truth(x.Cmp(y) > 0 || x.Cmp(y) == 0 && sign == ">=")
	case "/", "div", "mod":
		return quotient(sign, x, y)
	}
	t.Fatal("only an instant tells", sign)
	return nil
}

func quotient(sign string, x, y *big.Rat) *big.Rat {
	if y.Sign() == 0 {
		return nil
	}
	q := new(big.Rat).Quo(x, y)
	switch sign {
	case "div":
		return floor(q)
	case "mod":
		return minus(x, new(big.Rat).Mul(floor(q), y))
	}
	return q
}
