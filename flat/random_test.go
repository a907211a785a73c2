package flat_test

import (
	"testing"

	"foliot/api"
	"foliot/meaning"
	"foliot/ratio"
	"foliot/sample"
)

func TestRandomRuns(t *testing.T) {
	// 12.5: a flat program does what its program does, by any right scripts.
	ends, more, jumps, passed := [5]int{}, 0, 0, 0
	for seed := range int64(4000) {
		r := dice(seed)
		p := sample.Causal(r.Intn, 90)
		f := flattened(t, p)
		for range 3 {
			s := sample.Script(r.Intn, f.Ins)
			got := agrees(t, p, f, s)
			ends[got.End]++
			for _, e := range got.Entries {
				switch {
				case e.Index > 0 && len(f.Again) == 0:
					jumps++
				case e.Index > 0:
					more++
				case ratio.Sign(e.At) > 0 && !changes(s, e.At):
					passed++
				}
			}
		}
	}
	for _, n := range []int{ends[api.EndDone] / 50, ends[api.EndDiv], ends[api.EndCascade], ends[api.EndBig], more, jumps, passed} {
		if n < 60 {
			t.Error(ends, more, jumps, passed)
		}
	}
}

// changes tells whether an input changes at this time.
func changes(s api.Script, at api.Rat) bool {
	for _, c := range s.Changes {
		if ratio.Cmp(c.At, at) == 0 {
			return true
		}
	}
	return false
}

func TestRandomCauses(t *testing.T) {
	// 12.5: a flat program goes in some order just if nothing in its program hangs on itself (13).
	count := map[bool]int{}
	for seed := range int64(6000) {
		p := sample.Begun(dice(seed).Intn, []int{15, 30, 60}[seed%3])
		want := meaning.Causal(p)
		count[want]++
		if got := goes(flattened(t, p)); got != want {
			t.Fatal(sourceOf(p), got)
		}
	}
	if count[false] < 500 || count[true] < 500 {
		t.Error(count)
	}
}
