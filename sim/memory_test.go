package sim_test

import (
	"reflect"
	"testing"

	"foliot/api"
	"foliot/meaning"
	"foliot/sample"
	"foliot/sim"
)

// copied is something in memory of its own, each of its lists made by make out of what it holds.
func copied(v reflect.Value, make func(list reflect.Value) reflect.Value) reflect.Value {
	out := reflect.New(v.Type()).Elem()
	switch v.Kind() {
	case reflect.Slice:
		list := make(v)
		for i := range list.Len() {
			list.Index(i).Set(copied(list.Index(i), make))
		}
		out.Set(list)
	case reflect.Struct:
		for i := range v.NumField() {
			out.Field(i).Set(copied(v.Field(i), make))
		}
	default:
		out.Set(v)
	}
	return out
}

// roomy is something whose lists have two things behind their ends that are not their own.
func roomy[T any](x T) T {
	out := copied(reflect.ValueOf(x), func(list reflect.Value) reflect.Value {
		more := reflect.MakeSlice(list.Type(), list.Len()+2, list.Len()+2)
		reflect.Copy(more, list)
		for i := range 2 {
			behind(more.Index(list.Len() + i))
		}
		return more.Slice(0, list.Len())
	})
	return out.Interface().(T)
}

// behind puts something there that is not nought.
func behind(v reflect.Value) {
	switch v.Kind() {
	case reflect.Uint32:
		v.SetUint(7)
	case reflect.Int:
		v.SetInt(7)
	case reflect.String:
		v.SetString("behind")
	}
}

// whole is a copy of something, its lists with all that lies behind their ends.
func whole(x any) any {
	return copied(reflect.ValueOf(x), func(list reflect.Value) reflect.Value {
		all := list.Slice(0, list.Cap())
		out := reflect.MakeSlice(list.Type(), all.Len(), all.Len())
		reflect.Copy(out, all)
		return out
	}).Interface()
}

// places goes through all that lists hold, to the end of their memory, the outer ones first.
func places(v reflect.Value, see func(place reflect.Value)) {
	switch v.Kind() {
	case reflect.Slice:
		all := v.Slice(0, v.Cap())
		for i := range all.Len() {
			see(all.Index(i))
			places(all.Index(i), see)
		}
	case reflect.Struct:
		for i := range v.NumField() {
			places(v.Field(i), see)
		}
	}
}

// ruin writes over all that lists hold.
func ruin(x any) {
	var all []reflect.Value
	places(reflect.ValueOf(x), func(place reflect.Value) { all = append(all, place) })
	for i := len(all) - 1; i >= 0; i-- {
		switch all[i].Kind() {
		case reflect.Uint32:
			all[i].SetUint(0xbad)
		case reflect.Int:
			all[i].SetInt(-9)
		default:
			all[i].SetZero()
		}
	}
}

// shared tells whether two lists have one place.
func shared(l ...any) bool {
	seen := map[uintptr]reflect.Type{}
	twice := false
	for _, x := range l {
		places(reflect.ValueOf(x), func(place reflect.Value) {
			p := place.Addr().Pointer()
			twice = twice || seen[p] == place.Type()
			seen[p] = place.Type()
		})
	}
	return twice
}

// given is what a run is handed.
type given struct {
	Code   api.Code
	Ins    []string
	Script api.Script
}

func TestMemory(t *testing.T) {
	// R4: what is handed in is as it was, to behind its lists' ends; what is told is new memory, no two lists of which are one; it stays as it is, whatever becomes of what was handed in, or of another answer.
	n := tally{}
	for seed := range int64(1500) {
		r := dice(seed)
		c, ins := anyCode(r)
		s := sample.Script(r.Intn, ins)
		want := meaning.Code(c, ins, s, most)
		if want.End == 0 {
			continue
		}
		g := roomy(given{c, ins, s})
		ahead := whole(g)
		x, _ := sim.Run(g.Code, g.Ins, g.Script)
		y, phases, _ := sim.Log(g.Code, g.Ins, g.Script)
		if !reflect.DeepEqual(whole(g), ahead) {
			t.Fatal("changed:", ahead, g)
		}
		if shared(g, x, y, phases) {
			t.Fatal("shared:", traceText(x), phasesText(phases))
		}
		log := phasesText(phases)
		ruin(g)
		ruin(x)
		if traceText(y) != traceText(want) || phasesText(phases) != log {
			t.Fatal("kept:", traceText(y), traceText(want))
		}
		ruin(y)
		if phasesText(phases) != log || logged(c, ins, s) != log {
			t.Fatal("kept:", phasesText(phases), log)
		}
		n.note("entries", len(want.Entries) > 1)
		n.note("lines", len(phases) > 0 && len(phases[0].Lines) > 0)
	}
	n.least(t, 100, "entries", "lines")
}
