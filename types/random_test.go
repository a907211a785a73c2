package types_test

import (
	"math/big"
	"math/rand"
	"slices"
	"testing"

	"foliot/api"
	"foliot/names"
	"foliot/sample"
	"foliot/show"
	"foliot/types"
)

func dice(seed int64) *rand.Rand { return rand.New(rand.NewSource(seed)) }

func TestRandomRight(t *testing.T) {
	// 9.1 to 9.3: programs whose types are right.
	for seed := range int64(1500) {
		r := dice(seed)
		p := sample.Program(r.Intn, 70)
		if err := agrees(t, p); err != api.OK {
			text, _ := show.Show(p)
			t.Fatalf("%s\n%v", text, err)
		}
		for _, n := range p.Nodes {
			for _, e := range exprsOf(n) {
				if err := agreesOf(t, p, n, e); err != api.OK {
					t.Fatal(e, err)
				}
			}
			hasItsType(t, r, p, n)
		}
	}
}

func TestRandomSpoiled(t *testing.T) {
	// 9.1, 9.2: programs in which something was changed.
	count, counts := map[api.Errno]int{}, map[api.Errno]int{}
	for seed := range int64(4000) {
		r := dice(seed)
		p := sample.Program(r.Intn, 70)
		spoil(r, &p, 1+r.Intn(3))
		err := agrees(t, p)
		count[err]++
		for _, n := range p.Nodes {
			for _, e := range exprsOf(n) {
				counts[agreesOf(t, p, n, e)]++
			}
			if err == api.OK {
				hasItsType(t, r, p, n)
			}
		}
	}
	for _, err := range []api.Errno{api.OK, api.ErrType} {
		if count[err] < 500 || counts[err] < 2000 {
			t.Error(count, counts)
		}
	}
}

func TestAnyNode(t *testing.T) {
	// 9.1: expressions in nodes and programs that they are not of.
	count := map[api.Errno]int{}
	for seed := range int64(1000) {
		r := dice(seed)
		p, other := sample.Program(r.Intn, 70), sample.Program(r.Intn, 70)
		spoil(r, &other, 1)
		for _, n := range other.Nodes {
			for _, e := range exprsOf(n) {
				count[agreesOf(t, p, p.Nodes[r.Intn(len(p.Nodes))], e)]++
				count[agreesOf(t, p, n, e)]++
			}
		}
	}
	if count[api.OK] < 5000 || count[api.ErrType] < 5000 {
		t.Error(count)
	}
}

// What expressions of a node of a program that is checked may give, by the chapter of meanings: each gives only what its types have.

// runner gives what variables and calls may have, and what that makes of expressions.
type runner struct {
	r *rand.Rand
	p api.Program
	n api.Node
}

func hasItsType(t *testing.T, r *rand.Rand, p api.Program, n api.Node) {
	t.Helper()
	run := &runner{r, p, n}
	for _, e := range exprsOf(n) {
		l, err, place := types.Of(p, n, e)
		if err != api.OK {
			t.Fatal(e, err, place)
		}
		values := run.values(e)
		if len(values) != len(l) {
			t.Fatal(e, l, values)
		}
		for i, x := range values {
			if !run.belongs(x, l[i]) {
				text, _ := show.ShowExpr(e)
				t.Fatalf("%s: %v is not of %s", text, x, l[i])
			}
		}
	}
}

// A value is a bool, a *big.Rat, a constructor's name, or nothing.
func (run *runner) belongs(x any, t string) bool {
	switch x := x.(type) {
	case bool:
		return t == "bool"
	case *big.Rat:
		return t == "rat" || x.IsInt() && (t == "int" || t == "num")
	case string:
		i, _ := names.Ctor(run.p, x)
		return t == run.p.Enums[i].Name
	}
	return true
}

// any gives a value of a type.
func (run *runner) any(t string) any {
	switch t {
	case "bool":
		return run.r.Intn(2) == 0
	case "int":
		return big.NewRat(int64(run.r.Intn(9)-4), 1)
	case "rat":
		return big.NewRat(int64(run.r.Intn(9)-4), int64(1+run.r.Intn(4)))
	}
	for _, e := range run.p.Enums {
		if e.Name == t {
			return e.Ctors[run.r.Intn(len(e.Ctors))]
		}
	}
	return nil
}

func (run *runner) anyOf(l []api.Var) []any {
	var out []any
	for _, v := range l {
		out = append(out, run.any(v.Type))
	}
	return out
}

func (run *runner) values(e api.Expr) []any {
	var args []any
	for _, a := range e.Args {
		args = append(args, run.values(a)...)
	}
	if e.Kind == api.ETuple {
		return args
	}
	if e.Kind == api.ECall {
		return run.anyOf(run.p.Nodes[names.Node(run.p, e.Name)].Out)
	}
	if slices.Contains(args, nil) {
		return []any{nil}
	}
	return []any{run.value(e, args)}
}

func (run *runner) value(e api.Expr, args []any) any {
	switch e.Kind {
	case api.EBool:
		return e.Name == "true"
	case api.ENum:
		x, _ := new(big.Rat).SetString(e.Name)
		return x
	case api.ECtor:
		return e.Name
	case api.EUp:
		return args[0].(*big.Rat).Sign() > 0
	case api.EIf:
		if args[0].(bool) {
			return args[1]
		}
		return args[2]
	case api.EUn:
		return one(e.Name, args[0])
	case api.EBin:
		return run.two(e.Name, args[0], args[1])
	}
	all := slices.Concat(run.n.In, run.n.Out, run.n.Local)
	return run.any(all[slices.IndexFunc(all, func(v api.Var) bool { return v.Name == e.Name })].Type)
}

func floor(x *big.Rat) *big.Rat {
	q, r := new(big.Int).QuoRem(x.Num(), x.Denom(), new(big.Int))
	if r.Sign() < 0 {
		q.Sub(q, big.NewInt(1))
	}
	return new(big.Rat).SetInt(q)
}

func one(sign string, x any) any {
	switch sign {
	case "not":
		return !x.(bool)
	case "-":
		return new(big.Rat).Neg(x.(*big.Rat))
	case "floor":
		return floor(x.(*big.Rat))
	case "rat":
		return x.(*big.Rat)
	}
	return x
}

func (run *runner) two(sign string, x, y any) any {
	switch sign {
	case "fby", "->":
		return []any{x, y}[run.r.Intn(2)]
	case "and":
		return x.(bool) && y.(bool)
	case "or":
		return x.(bool) || y.(bool)
	case "==", "!=":
		if a, ok := x.(*big.Rat); ok {
			return (a.Cmp(y.(*big.Rat)) == 0) == (sign == "==")
		}
		return (x == y) == (sign == "==")
	}
	a, b := x.(*big.Rat), y.(*big.Rat)
	switch sign {
	case "+":
		return new(big.Rat).Add(a, b)
	case "-":
		return new(big.Rat).Sub(a, b)
	case "*":
		return new(big.Rat).Mul(a, b)
	case "<", "<=", ">", ">=":
		c := a.Cmp(b)
		return c < 0 && sign[0] == '<' || c > 0 && sign[0] == '>' || c == 0 && len(sign) == 2
	}
	if b.Sign() == 0 {
		return nil
	}
	q := new(big.Rat).Quo(a, b)
	switch sign {
	case "div":
		return floor(q)
	case "mod":
		return q.Sub(a, q.Mul(floor(q), b))
	}
	return q
}
