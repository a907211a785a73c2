package sample_test

import (
	"math/rand"
	"reflect"
	"strconv"
	"strings"
	"testing"

	"foliot/api"
	"foliot/lex"
	"foliot/sample"
	"foliot/show"
	"foliot/types"
)

func TestPrograms(t *testing.T) {
	// Programs are right, and so are their names and types; there is of everything in them that a source may have.
	seen := map[string]int{}
	for seed := range int64(1000) {
		p := sample.Program(rand.New(rand.NewSource(seed)).Intn, 80)
		text, err := show.Show(p)
		if err != api.OK {
			t.Fatal(p, err)
		}
		if err, place := types.Check(p); err != api.OK {
			t.Fatalf("%s\n%v, %d", text, err, place)
		}
		l, _, _ := lex.Tokens(text)
		for _, x := range l {
			seen[x.Text]++
		}
	}
	for _, text := range strings.Fields("type t0 t1 S0 S2 node hybrid main f0 returns var let tel if then else pre fby last der init reset when every automaton state until continue present end true false and or not up bool int rat floor div mod ( , -> + - * / < <= > >= == !=") {
		if seen[text] < 100 {
			t.Error(text, seen[text])
		}
	}
}

func TestSameDice(t *testing.T) {
	// Of the same dice come the same programs; of more, larger ones.
	small, large := 0, 0
	for seed := range int64(200) {
		throw := func() func(int) int { return rand.New(rand.NewSource(seed)).Intn }
		p := sample.Program(throw(), 60)
		if !reflect.DeepEqual(p, sample.Program(throw(), 60)) {
			t.Fatal(seed)
		}
		a, _ := show.Show(p)
		b, _ := show.Show(sample.Program(throw(), 1000))
		small, large = small+len(a), large+len(b)
	}
	if 4*small > 3*large {
		t.Error(small, large)
	}
}

func TestAnyDice(t *testing.T) {
	// Whatever dice say, a program comes to its end, and is right.
	for name, dice := range map[string]func(int) int{
		"least":    func(int) int { return 0 },
		"greatest": func(n int) int { return n - 1 },
		"middle":   func(n int) int { return n / 2 },
	} {
		for _, size := range []int{-5, 0, 1, 30, 3000} {
			p := sample.Program(dice, size)
			if err, place := types.Check(p); err != api.OK {
				t.Error(name+" "+strconv.Itoa(size), p, err, place)
			}
		}
	}
}
