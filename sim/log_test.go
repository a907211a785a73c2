package sim_test

import (
	"strings"
	"testing"

	"foliot/api"
)

// counting is code whose memory counts instants, from 0; of its two states one goes on by 1 and begins anew when it is 1, the other stays; its outputs are the count and whether the up passes.
func counting() api.Code {
	return api.Code{
		Outs: 2, Slots: 7, Crosses: 1, Lines: 3, Mems: vals("0"), Conts: vals("0 Red"),
		Step:  body("cont >0 k0; lit >1 @1; mem >2 k0; + >3 <2,1; flag >4 k0; lit >5 @0; sel >6 <4,5,0; keep k0 <3; state k0 <6; out k0 <3; out k1 <4"),
		Deriv: body("slope k0 <-1,1"),
		Cross: body("lcont >0 k0; lvar >1 <1; l- >2 <0,1; ask k0 <2"),
	}
}

func TestLog(t *testing.T) {
	// 21.2: what was done, one by one, each with the memories, the states, the outputs, and how states go on, behind it. Ahead of the first Deriv no state goes on; behind a Step states are anew, and go on as the last Deriv said.
	want := []string{
		"step 0.0 1|0 Red|1 false|- -",
		"deriv 0.0 1|0 Red|1 false|0+1 -",
		"cross 0.0 1|0 Red|1 false|0+1 -",
		"move 1.0 1|1 Red|1 false|1+1 -",
		"step 1.0 2|0 Red|2 true|0+1 -",
		"deriv 1.0 2|0 Red|2 true|0+1 -",
		"cross 1.0 2|0 Red|2 true|0+1 -",
	}
	is(t, "till 3/2", logged(counting(), nil, scripted("3/2 0 8")), strings.Join(want, "\n"))
	is(t, "till 0", logged(counting(), nil, scripted("0 0 8")), strings.Join(want[:3], "\n"))
}

func TestLogOfCascades(t *testing.T) {
	// An instant's phases have its index; what states are moved to has index 0.
	c := api.Code{
		Ins: 1, Outs: 1, Slots: 2, Crosses: 1, Lines: 1, Conts: vals("5"),
		Step:  body("in >0 k0; flag >1 k0; out k0 <1"),
		Deriv: body("slope k0 <-1,0"),
		Cross: body("lvar >0 <0; ask k0 <0"),
	}
	is(t, "jumps", logged(c, []string{"v"}, scripted("3 1 8; 0 v -1; 1 v 2; 3/2 v 0")), strings.Join([]string{
		"step 0.0 |5|false|-", "deriv 0.0 |5|false|5+-1", "cross 0.0 |5|false|5+-1",
		"move 1.0 |4|false|4+-1",
		"step 1.0 |4|false|4+-1", "deriv 1.0 |4|false|4+2", "cross 1.0 |4|false|4+2",
		"step 1.1 |4|true|4+2", "deriv 1.1 |4|true|4+2", "cross 1.1 |4|true|4+2",
		"move 3/2.0 |5|true|5+2",
		"step 3/2.0 |5|false|5+2", "deriv 3/2.0 |5|false|5+0", "cross 3/2.0 |5|false|5+0",
	}, "\n"))
}

func TestLogOfStops(t *testing.T) {
	// 21.2: an instant that stops the run is told as others are; a move that is refused is not.
	c := api.Code{
		Ins: 1, Outs: 1, Slots: 3, Conts: vals("1"), Mems: vals("?"),
		Step:  body("in >0 k0; lit >1 @1; / >2 <1,0; out k0 <2; keep k0 <0"),
		Deriv: body("slope k0 <-1,1"),
	}
	first := []string{"step 0.0 1|1|1|-", "deriv 0.0 1|1|1|1+1", "cross 0.0 1|1|1|1+1"}
	for _, x := range []struct {
		script string
		more   []string
	}{
		{"3 0 2; 0 v 1; 1 v 0", []string{"move 1.0 1|2|1|2+1", "step 1.0 0|2|?|2+1", "deriv 1.0 0|2|?|2+1", "cross 1.0 0|2|?|2+1"}},
		{"3 0 2; 0 v 1; 1 v 4", []string{"move 1.0 1|2|1|2+1", "step 1.0 ?|2|?|2+1", "deriv 1.0 ?|2|?|2+1", "cross 1.0 ?|2|?|2+1"}},
		{"3 0 2; 0 v 1; 3 v 1", nil}, // the state has too many bits
		{"3 0 3; 0 v 1; 3 v 1", []string{"move 3.0 1|4|1|4+1", "step 3.0 1|4|1|4+1", "deriv 3.0 1|4|1|4+1", "cross 3.0 1|4|1|4+1"}},
		{"9 0 3; 0 v 1; 8 v 1", nil},
	} {
		is(t, x.script, logged(c, []string{"v"}, scripted(x.script)), strings.Join(append(first, x.more...), "\n"))
	}
	c.Deriv = nil // the time has too many bits
	is(t, "time", logged(c, []string{"v"}, scripted("9 0 3; 0 v 1; 8 v 1")), strings.ReplaceAll(strings.Join(first, "\n"), "1+1", "-"))
}
