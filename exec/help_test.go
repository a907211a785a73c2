package exec_test

import (
	"math/big"
	"math/rand"
	"slices"
	"strconv"
	"strings"
	"testing"

	"foliot/api"
	"foliot/exec"
	"foliot/ratio"
)

func dice(seed int64) *rand.Rand { return rand.New(rand.NewSource(seed)) }

// rat reads a number.
func rat(s string) api.Rat {
	r, err := ratio.Parse(s)
	if err != api.OK {
		panic(s)
	}
	return r
}

// val reads a value: ? is nothing, true and false are truths, a text with a large letter ahead is a constructor.
func val(s string) api.Value {
	switch {
	case s == "?":
		return api.Value{}
	case s == "true":
		return api.Value{Kind: api.VBool, Num: ratio.Of(1)}
	case s == "false":
		return api.Value{Kind: api.VBool, Num: ratio.Of(0)}
	case 'A' <= s[0] && s[0] <= 'Z':
		return api.Value{Kind: api.VCtor, Name: s}
	}
	return api.Value{Kind: api.VNum, Num: rat(s)}
}

func vals(s string) []api.Value {
	var out []api.Value
	for _, x := range strings.Fields(s) {
		out = append(out, val(x))
	}
	return out
}

func rats(s string) []api.Rat {
	var out []api.Rat
	for _, x := range strings.Fields(s) {
		out = append(out, rat(x))
	}
	return out
}

// body reads instructions: of each its Op, > its Dst, < its Args, k its K, ? its Guard (else -1), ! its Resets, @ its Lit.
func body(text string) []api.Ins {
	var out []api.Ins
	for _, part := range strings.Split(text, "; ") {
		l := strings.Fields(part)
		if len(l) == 0 {
			continue
		}
		x := api.Ins{Op: l[0], Guard: -1}
		for _, f := range l[1:] {
			if f[0] == '@' {
				x.Lit = val(f[1:])
				continue
			}
			var row []int
			for _, n := range strings.Split(f[1:], ",") {
				i, err := strconv.Atoi(n)
				if err != nil {
					panic(part)
				}
				row = append(row, i)
			}
			switch f[0] {
			case '>':
				x.Dst = row[0]
			case '<':
				x.Args = row
			case 'k':
				x.K = row[0]
			case '?':
				x.Guard = row[0]
			case '!':
				x.Resets = row
			default:
				panic(part)
			}
		}
		out = append(out, x)
	}
	return out
}

// made makes a machine of object code that may run.
func made(t *testing.T, c api.Code) *exec.Machine {
	t.Helper()
	m, err := exec.New(c)
	if err != api.OK || m == nil {
		t.Fatal(c, err)
	}
	return m
}

// bigNat tells limbs as a number of the library's, which the tests hold the package against.
func bigNat(limbs []uint32) *big.Int {
	n := new(big.Int)
	for _, limb := range slices.Backward(limbs) {
		n.Lsh(n, 32).Add(n, big.NewInt(int64(limb)))
	}
	return n
}

// bigOf does so with a rational number; one whose Den is 0 counts as 0.
func bigOf(a api.Rat) *big.Rat {
	num, den := bigNat(a.Num.Mag), bigNat(a.Den)
	if den.Sign() == 0 {
		return new(big.Rat)
	}
	if a.Num.Neg {
		num.Neg(num)
	}
	return new(big.Rat).SetFrac(num, den)
}

// isTold tells whether a number is as it is told: in lowest terms, without limbs that do not count, 0 without a sign.
func isTold(a api.Rat) bool {
	counts := func(l []uint32) bool { return len(l) == 0 || l[len(l)-1] != 0 }
	r := bigOf(a)
	return counts(a.Num.Mag) && counts(a.Den) && len(a.Den) > 0 && (len(a.Num.Mag) > 0 || !a.Num.Neg) &&
		r.Num().BitLen() == bigNat(a.Num.Mag).BitLen() && r.Denom().Cmp(bigNat(a.Den)) == 0
}

// textOf tells a value as val reads it; what is not as it is told has a text that nothing has.
func textOf(v api.Value) string {
	num := bigOf(v.Num).RatString()
	zero := len(v.Num.Den) == 0 && len(v.Num.Num.Mag) == 0 && !v.Num.Num.Neg
	switch {
	case v.Kind == api.VNil && zero && v.Name == "":
		return "?"
	case v.Kind == api.VBool && (num == "0" || num == "1"):
		return map[string]string{"0": "false", "1": "true"}[num]
	case v.Kind == api.VNum && isTold(v.Num) && v.Name == "":
		return num
	case v.Kind == api.VCtor && num == "0":
		return v.Name
	case v.Kind == api.VCtor:
		return v.Name + "=" + num
	}
	return "bad " + strconv.Itoa(v.Kind) + " " + num + v.Name
}

func textsOf(l []api.Value) string {
	var out []string
	for _, v := range l {
		out = append(out, textOf(v))
	}
	return strings.Join(out, " ")
}

// linesOf tells lines: of each what it is, and by what it goes on; - is one that is not on.
func linesOf(l []api.Line) string {
	var out []string
	for _, x := range l {
		v, s := api.Value{Kind: api.VNum, Num: x.V}, api.Value{Kind: api.VNum, Num: x.S}
		switch {
		case x.On:
			out = append(out, textOf(v)+"+"+textOf(s))
		case len(x.V.Num.Mag)+len(x.V.Den)+len(x.S.Num.Mag)+len(x.S.Den) > 0 || x.V.Num.Neg || x.S.Num.Neg:
			out = append(out, "bad")
		default:
			out = append(out, "-")
		}
	}
	return strings.Join(out, " ")
}

// faultsOf tells what was wrong.
func faultsOf(div, big bool) string {
	out := ""
	if div {
		out += " div"
	}
	if big {
		out += " big"
	}
	return out
}

// kept tells all that a machine keeps.
func kept(m *exec.Machine) string {
	again := ""
	if m.Again() {
		again = " again"
	}
	return textsOf(m.Outs()) + again + "; " + textsOf(m.Mems()) + "; " + textsOf(m.Conts()) + "; " + linesOf(m.States())
}

// is asks what something is.
func is(t *testing.T, what, got, want string) {
	t.Helper()
	if got != want {
		t.Errorf("%s: got %q, want %q", what, got, want)
	}
}

// stepped does an instant, and tells outputs and faults.
func stepped(m *exec.Machine, in string, bits int, flags ...bool) string {
	div, big := m.Step(rats(in), flags, bits)
	return textsOf(m.Outs()) + faultsOf(div, big)
}

// crossed tells what crossings ask, and faults.
func crossed(m *exec.Machine, bits int) string {
	l, div, big := m.Cross(bits)
	return linesOf(l) + faultsOf(div, big)
}
