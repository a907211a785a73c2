package driver_test

import (
	"bytes"
	"reflect"
	"slices"
	"sync"
	"testing"

	"foliot/api"
	"foliot/driver"
)

// answer is all that is answered of a source and a text.
type answer struct {
	Ran, Built api.Outcome
	Code       api.Code
	Ins        []string
}

func answered(source, text []byte) answer {
	out := answer{Ran: driver.Run(source, text)}
	out.Code, out.Ins, out.Built = driver.Build(source)
	return out
}

// lists goes through all that lists hold, to the end of their memory, what they hold ahead of where it lies.
func lists(v reflect.Value, see func(place reflect.Value)) {
	switch v.Kind() {
	case reflect.Slice:
		all := v.Slice(0, v.Cap())
		for i := range all.Len() {
			lists(all.Index(i), see)
			see(all.Index(i))
		}
	case reflect.Struct:
		for i := range v.NumField() {
			lists(v.Field(i), see)
		}
	}
}

// shared tells whether two lists have one place.
func shared(l ...answer) bool {
	seen := map[uintptr]reflect.Type{}
	twice := false
	for _, x := range l {
		lists(reflect.ValueOf(x), func(place reflect.Value) {
			p := place.Addr().Pointer()
			twice = twice || seen[p] == place.Type()
			seen[p] = place.Type()
		})
	}
	return twice
}

func TestMemory(t *testing.T) {
	// R4: bytes that are handed in are as they were, to behind their ends; answers are new memory, no two lists of which are one, and stay as they are, whatever becomes of the bytes or of another answer. R5: they are the same each time.
	n := tally{}
	for seed := range int64(600) {
		source, text := texts(dice(seed))
		want, ends := meant(source, text)
		if !ends {
			continue
		}
		source, text = append(source, " behind"...), append(text, " behind"...)
		sourceAhead, textAhead := slices.Clone(source), slices.Clone(text)
		ask := func() answer { return answered(source[:len(source)-7], text[:len(text)-7]) }
		a, b, c := ask(), ask(), ask()
		if !bytes.Equal(source, sourceAhead) || !bytes.Equal(text, textAhead) {
			t.Fatalf("%s\n%s\nchanged: %s\n%s", sourceAhead, textAhead, source, text)
		}
		if shared(a, b, c) {
			t.Fatalf("%s\n%s\nshared", source, text)
		}
		lists(reflect.ValueOf(a), func(place reflect.Value) { place.SetZero() })
		clear(source)
		clear(text)
		if !reflect.DeepEqual(b, c) || !reflect.DeepEqual(b.Ran, want) {
			t.Fatalf("%s\n%s\nkept", sourceAhead, textAhead)
		}
		n.note("built", b.Built.Kind == 0 && len(b.Ins) > 0)
		n.note("entries", len(b.Ran.Trace.Entries) > 1)
	}
	n.least(t, 100, "built", "entries")
}

func TestAtOnce(t *testing.T) {
	// R5: calls that are done at one time do not know of one another.
	const howMany = 8
	var wants, gots [howMany]answer
	var sources, scripts [howMany][]byte
	for i := range howMany {
		seed := int64(1000 * i)
		for ends := false; !ends; seed++ {
			sources[i], scripts[i] = texts(dice(seed))
			_, ends = meant(sources[i], scripts[i])
		}
		wants[i] = answered(sources[i], scripts[i])
	}
	var group sync.WaitGroup
	for i := range howMany {
		group.Go(func() { gots[i] = answered(sources[i], scripts[i]) })
	}
	group.Wait()
	for i := range howMany {
		if !reflect.DeepEqual(gots[i], wants[i]) {
			t.Errorf("%s\n%s\ngot  %v\nwant %v", sources[i], scripts[i], gots[i], wants[i])
		}
	}
}
