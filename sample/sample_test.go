package sample_test

import (
	"math/rand"
	"reflect"
	"strconv"
	"strings"
	"testing"

	"foliot/api"
	"foliot/inits"
	"foliot/kinds"
	"foliot/lex"
	"foliot/meaning"
	"foliot/sample"
	"foliot/show"
	"foliot/types"
)

// maker is one of the package's calls.
type maker func(dice func(int) int, size int) api.Program

// seen asks that programs are right, that a check of a layer finds nothing in them, and that there is of everything in them that a source may have.
func seen(t *testing.T, program maker, check func(api.Program) (api.Errno, int)) {
	t.Helper()
	count := map[string]int{}
	for seed := range int64(1000) {
		p := program(rand.New(rand.NewSource(seed)).Intn, 80)
		text, err := show.Show(p)
		if err != api.OK {
			t.Fatal(p, err)
		}
		if err, place := check(p); err != api.OK {
			t.Fatalf("%s\n%v, %d", text, err, place)
		}
		l, _, _ := lex.Tokens(text)
		for _, x := range l {
			count[x.Text]++
		}
	}
	for _, text := range strings.Fields("type t0 t1 S0 S2 node hybrid main f0 returns var let tel if then else pre fby last der init reset when every automaton state until continue present end true false and or not up bool int rat floor div mod ( , -> + - * / < <= > >= == !=") {
		if count[text] < 100 {
			t.Error(text, count[text])
		}
	}
}

func TestPrograms(t *testing.T) {
	// Programs' names and types are right.
	seen(t, sample.Program, types.Check)
}

func TestKinded(t *testing.T) {
	// So are kinds, where that is asked for.
	seen(t, sample.Kinded, kinds.Check)
}

func TestBegun(t *testing.T) {
	// So is what they tell at the first instant, where that is asked for.
	seen(t, sample.Begun, inits.Check)
}

// causal is the check of a program in which nothing hangs on itself.
func causal(p api.Program) (api.Errno, int) {
	err, place := inits.Check(p)
	if err == api.OK && !meaning.Causal(p) {
		err = api.ErrCause
	}
	return err, place
}

func TestCausal(t *testing.T) {
	// Nothing in them hangs on itself, where that is asked for.
	seen(t, sample.Causal, causal)
}

func TestSameDice(t *testing.T) {
	// Of the same dice come the same programs; of more, larger ones.
	for _, program := range []maker{sample.Program, sample.Kinded, sample.Begun, sample.Causal} {
		small, large := 0, 0
		for seed := range int64(200) {
			throw := func() func(int) int { return rand.New(rand.NewSource(seed)).Intn }
			p := program(throw(), 60)
			if !reflect.DeepEqual(p, program(throw(), 60)) {
				t.Fatal(seed)
			}
			a, _ := show.Show(p)
			b, _ := show.Show(program(throw(), 1000))
			small, large = small+len(a), large+len(b)
		}
		if 4*small > 3*large {
			t.Error(small, large)
		}
	}
}

func TestAnyDice(t *testing.T) {
	// Whatever dice say, a program comes to its end, and is right.
	for name, dice := range map[string]func(int) int{
		"least":    func(int) int { return 0 },
		"greatest": func(n int) int { return n - 1 },
		"middle":   func(n int) int { return n / 2 },
	} {
		for _, size := range []int{-5, 0, 1, 30, 3000} {
			for i, check := range []func(api.Program) (api.Errno, int){types.Check, kinds.Check, inits.Check, causal} {
				p := []maker{sample.Program, sample.Kinded, sample.Begun, sample.Causal}[i](dice, size)
				if err, place := check(p); err != api.OK {
					t.Error(name+" "+strconv.Itoa(size), i, p, err, place)
				}
			}
		}
	}
}
