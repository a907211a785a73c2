package safe_test

import (
	"math"
	"math/rand"
	"reflect"
	"slices"
	"testing"

	"foliot/api"
	"foliot/cause"
	"foliot/code"
	"foliot/flat"
	"foliot/meaning"
	"foliot/plan"
	"foliot/ratio"
	"foliot/safe"
	"foliot/sample"
)

// planned is the object code of a flat program, by layer 14's plan, or by another one that is right.
func planned(t *testing.T, r func(int) int, f api.Flat) api.Code {
	t.Helper()
	p, err := plan.Of(f)
	if err == api.OK && r(2) == 0 {
		n := len(f.Names)
		p.Order, p.Slots = sample.Order(r, cause.Needs(f)), n+r(3)
		p.Slot = sample.Order(r, make([][]int, p.Slots))[:n]
	}
	c, wrong := code.Of(f, p)
	if err != api.OK || wrong != api.OK {
		t.Fatal(f, err, wrong)
	}
	return c
}

// owns asks that each body has Ops of its own alone, so that it writes what is its own.
func owns(t *testing.T, c api.Code) {
	t.Helper()
	for b, l := range bodies(&c) {
		for _, x := range *l {
			if _, ok := opsOf[b][x.Op]; !ok {
				t.Fatal(b, x)
			}
		}
	}
}

func TestPlanned(t *testing.T) {
	// 16.2: what is made of a plan is right, be it a flat program's or a source's.
	for seed := range int64(2000) {
		r := dice(seed).Intn
		c := planned(t, r, sample.Flat(r, r(25), false))
		right(t, "a flat program's", true, c)
		owns(t, c)
	}
	for seed := range int64(300) {
		r := dice(seed).Intn
		f, err, _ := flat.Of(sample.Causal(r, 60))
		if err != api.OK {
			t.Fatal(err)
		}
		if c := planned(t, r, f); !safe.Right(c) {
			t.Error(c)
		}
	}
}

func TestGreatPlans(t *testing.T) {
	// 16.1, 16.2: what is made of a plan is right up to MaxCode of everything, and not beyond.
	lit := []api.FEq{{Op: "lit", Guard: -1}}
	cross := func(n int) []api.Cross {
		return []api.Cross{{Guard: -1, Ops: slices.Repeat([]api.COp{{Op: "var", Args: []int{0}}}, n)}}
	}
	for what, made := range map[string]func(n int) (api.Flat, int){
		"inputs":    func(n int) (api.Flat, int) { return api.Flat{Ins: make([]string, n)}, 1 },
		"outputs":   func(n int) (api.Flat, int) { return api.Flat{Outs: make([]int, n)}, 1 },
		"slots":     func(n int) (api.Flat, int) { return api.Flat{}, n },
		"crossings": func(n int) (api.Flat, int) { return api.Flat{Cross: slices.Repeat(cross(1), n)}, 1 },
		"lines":     func(n int) (api.Flat, int) { return api.Flat{Cross: cross(n)}, 1 },
	} {
		for n, want := range map[int]bool{1: true, api.MaxCode: true, api.MaxCode + 1: false} {
			f, slots := made(n)
			f.Names, f.Eqs = []string{"x"}, lit
			c, err := code.Of(f, api.Plan{Order: []int{0}, Slot: []int{slots - 1}, Slots: slots})
			if err != api.OK || safe.Right(c) != want {
				t.Error(what, n, err)
			}
		}
	}
}

func TestAnyCode(t *testing.T) {
	// 16.1: right is more than what is made of plans: all that writes ahead what it reads.
	for seed := range int64(3000) {
		r := dice(seed).Intn
		c := sample.Code(r, r(25))
		right(t, "any", true, c)
		owns(t, c)
	}
}

// odd is a number that may be a place.
func odd(r *rand.Rand) int {
	if r.Intn(8) == 0 {
		return []int{math.MinInt, -2, -1, -1, api.MaxCode - 1, api.MaxCode, api.MaxCode + 1, math.MaxInt}[r.Intn(8)]
	}
	return r.Intn(7)
}

// spoil changes something in object code; it may be right all the same.
func spoil(r *rand.Rand, c *api.Code) {
	l := bodies(c)[r.Intn(3)]
	if len(*l) == 0 {
		l = &c.Step
	}
	if r.Intn(8) == 0 || len(*l) == 0 {
		counts(r, c)
		return
	}
	*l = slices.Clone(*l)
	i, k := r.Intn(len(*l)), r.Intn(len(*l))
	x := &(*l)[i]
	switch r.Intn(10) {
	case 0:
		(*l)[i], (*l)[k] = (*l)[k], (*l)[i]
	case 1:
		*l = slices.Delete(*l, i, i+1)
	case 2:
		other := bodies(c)[r.Intn(3)]
		*other = slices.Insert(slices.Clone(*other), r.Intn(len(*other)+1), *x)
	case 3:
		x.Op = allOps()[r.Intn(len(allOps()))]
	case 4:
		x.Dst = odd(r)
	case 5:
		x.K = odd(r)
	case 6:
		x.Guard = odd(r)
	case 7:
		x.Resets = append(slices.Clone(x.Resets), odd(r))
	case 8:
		x.Args = append(slices.Clone(x.Args), odd(r), odd(r))[:len(x.Args)+r.Intn(3)]
	case 9:
		x.Args = slices.Clone(x.Args)
		if len(x.Args) > 0 {
			x.Args[r.Intn(len(x.Args))] = odd(r)
			x.Args = x.Args[r.Intn(2)*r.Intn(2):]
		}
	}
}

// counts changes how many there are of something.
func counts(r *rand.Rand, c *api.Code) {
	switch i := r.Intn(7); i {
	case 5:
		c.Mems = make([]api.Value, r.Intn(4))
	case 6:
		c.Conts = make([]api.Value, r.Intn(4))
	default:
		*[]*int{&c.Ins, &c.Outs, &c.Slots, &c.Crosses, &c.Lines}[i] = odd(r)
	}
}

func TestRandomCodes(t *testing.T) {
	// 16.1: object code in which something is changed is as the words have it.
	count := map[bool]int{}
	for seed := range int64(20000) {
		r := dice(seed)
		c := sample.Code(r.Intn, r.Intn(12))
		if seed%3 == 0 {
			c = planned(t, r.Intn, sample.Flat(r.Intn, r.Intn(6), false))
		}
		for range 1 + r.Intn(2) {
			spoil(r, &c)
		}
		want := isRight(c)
		count[want]++
		if safe.Right(c) != want {
			t.Fatal(c, want)
		}
		if want {
			owns(t, c)
		}
	}
	if count[true] < 3000 || count[false] < 3000 {
		t.Error(count)
	}
}

func TestWhateverIsGiven(t *testing.T) {
	// R1: the call ends at all object code.
	count := map[bool]int{}
	ops := allOps()
	for seed := range int64(20000) {
		r := dice(seed)
		row := func(most int) []int { return []int{odd(r), odd(r), odd(r)}[:r.Intn(most+1)] }
		c := api.Code{Ins: odd(r), Outs: odd(r), Slots: odd(r), Crosses: odd(r), Lines: odd(r), Mems: make([]api.Value, r.Intn(3)), Conts: make([]api.Value, r.Intn(3))}
		for _, l := range bodies(&c) {
			for range r.Intn(3) {
				*l = append(*l, api.Ins{Op: ops[r.Intn(len(ops))], Dst: odd(r), Args: row(3), K: odd(r), Guard: odd(r), Resets: row(1)})
			}
		}
		want := isRight(c)
		count[want]++
		if safe.Right(c) != want {
			t.Fatal(c, want)
		}
	}
	if count[true] < 100 || count[false] < 1000 {
		t.Error(count)
	}
}

// behind writes something into all slots and lines of object code ahead of what it does itself.
func behind(c api.Code) api.Code {
	var step, cross []api.Ins
	for s := range c.Slots {
		junk := api.Value{Kind: api.VCtor, Name: "Junk"}
		if s%2 == 0 {
			junk = api.Value{Kind: api.VBool, Num: ratio.Of(1)}
		}
		step = append(step, api.Ins{Op: "lit", Dst: s, Lit: junk, Guard: -1})
	}
	for l := range c.Lines {
		cross = append(cross, body("lvar <0")[0])
		cross[l].Dst = l
	}
	if c.Slots == 0 {
		cross = nil
	}
	c.Step, c.Cross = append(step, c.Step...), append(cross, c.Cross...)
	return c
}

func TestWhatIsRead(t *testing.T) {
	// 16.1: what is right reads slots and lines that it wrote at the instant alone: it does not matter what stood there ahead; and it runs by any script that is right.
	ends, instants := [5]int{}, 0
	for seed := range int64(3000) {
		r := dice(seed)
		c := sample.Code(r.Intn, r.Intn(20))
		if seed%3 == 0 {
			if spoil(r, &c); !safe.Right(c) {
				continue
			}
		}
		if max(c.Ins, c.Outs, c.Slots, c.Lines) > 7 {
			continue
		}
		d := behind(c)
		right(t, "with others ahead", true, d)
		ins := []string{"a", "b", "c", "d", "e", "f", "g"}[:c.Ins]
		s := sample.Script(r.Intn, ins)
		got, want := meaning.Code(d, ins, s, 10), meaning.Code(c, ins, s, 10)
		if !reflect.DeepEqual(got, want) {
			t.Fatal(c, s, got, want)
		}
		ends[want.End]++
		instants += len(want.Entries)
	}
	if ends[api.EndDone] < 300 || ends[api.EndDiv] < 50 || instants < 2000 {
		t.Error(ends, instants)
	}
}

func TestGreatCodes(t *testing.T) {
	// R1: great object code is asked, too.
	const n = api.MaxCode
	c := api.Code{Slots: n, Lines: n, Conts: make([]api.Value, n)}
	every := make([]int, n)
	pairs := make([]int, 2*n)
	for i := range n {
		every[i], pairs[2*i], pairs[2*i+1] = i, i, n-1-i
		c.Step = append(c.Step, api.Ins{Op: "mem", Dst: i, Guard: i - 1})
		c.Deriv = append(c.Deriv, api.Ins{Op: "slope", K: i, Args: []int{i, i}, Guard: i})
		c.Cross = append(c.Cross, api.Ins{Op: "lcont", Dst: i, K: i, Guard: i})
		if i > 0 {
			c.Step[i].Resets = []int{i - 1}
			c.Cross[i] = api.Ins{Op: "lsel", Dst: i, Args: []int{i, i - 1, i / 2}, Guard: i}
		}
	}
	c.Mems = c.Conts
	for range 10 {
		c.Step = append(c.Step, api.Ins{Op: "mrg", Args: every, Guard: -1}, api.Ins{Op: "keep", K: n - 1, Args: []int{n - 1}, Guard: -1, Resets: every})
		c.Deriv = append(c.Deriv, api.Ins{Op: "slope", Args: pairs, Guard: -1})
	}
	if !safe.Right(c) {
		t.Error("great")
	}
	pairs[2*n-1] = n
	if safe.Right(c) {
		t.Error("great, with one that is no slot")
	}
	pairs[2*n-1] = 0
	c.Cross[n-1].Args[1] = n - 1
	if safe.Right(c) {
		t.Error("great, with one that reads itself")
	}
}

// roomy is the same object code, in each list's memory of which one more stands behind its end.
func roomy(c api.Code) api.Code {
	c.Mems, c.Conts = one(c.Mems, api.Value{Kind: 9}), one(c.Conts, api.Value{Kind: 9})
	for _, l := range bodies(&c) {
		*l = one(*l, api.Ins{Op: "behind"})
		for i := range *l {
			x := &(*l)[i]
			x.Args, x.Resets = one(x.Args, 70), one(x.Resets, 80)
		}
	}
	return c
}

// one is a copy of a list, behind the end of which this stands.
func one[T any](l []T, x T) []T { return append(slices.Clone(l), x)[:len(l)] }

// longer is object code to behind its lists' ends.
func longer(c api.Code) api.Code {
	c.Mems, c.Conts = c.Mems[:len(c.Mems)+1], c.Conts[:len(c.Conts)+1]
	for _, l := range bodies(&c) {
		n := len(*l)
		*l = slices.Clone((*l)[:n+1])
		for i := range (*l)[:n] {
			x := &(*l)[i]
			x.Args, x.Resets = x.Args[:len(x.Args)+1], x.Resets[:len(x.Resets)+1]
		}
	}
	return c
}

func TestNothingIsChanged(t *testing.T) {
	// R4, R5: what is handed in is as it was, to behind its lists' ends; nothing that stands there counts; it is answered the same again.
	for seed := range int64(1000) {
		made := func() api.Code {
			r := dice(seed)
			c := sample.Code(r.Intn, 9)
			if seed%2 == 0 {
				spoil(r, &c)
			}
			return roomy(c)
		}
		c, want := made(), isRight(made())
		for range 2 {
			if safe.Right(c) != want {
				t.Fatal(c, want)
			}
		}
		if !reflect.DeepEqual(longer(c), longer(made())) {
			t.Fatal(c)
		}
	}
}
