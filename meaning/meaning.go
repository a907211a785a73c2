// Package meaning tells what programs do by the words of chapter 12 alone, for the tests of the layers: a source as it stands, and a flat program; what object code does by those of chapter 17; what the calls of a machine that runs it come to in a run; and what hangs on itself by those of chapter 13. Programs it tells by demand, knowing of no order, so that it is a second way to what the layers tell.
package meaning

import "foliot/api"

// Source tells what a program that is taken up to layer 11 does by a right script (12.1, 12.2), up to so many instants: if more come, those, and an End of 0. A program in which something hangs on itself at one of these instants does nothing: false.
func Source(p api.Program, s api.Script, most int) (api.Trace, bool) {
	nodes := map[string]api.Node{}
	for _, n := range p.Nodes {
		nodes[n.Name] = n
	}
	var ins []string
	for _, v := range nodes["main"].In {
		ins = append(ins, v.Name)
	}
	m := &source{main: newNode(nodes, nodes["main"], nil, nil)}
	t := run[crossing](m, ins, s, most)
	if m.circle {
		return api.Trace{}, false
	}
	return t, true
}
