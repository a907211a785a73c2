package names

import (
	"foliot/api"
	"foliot/graph"
)

// fault is what a check panics with: what is wrong, and where.
type fault struct {
	err   api.Errno
	place int
}

// must says that something is wrong there, if what must hold does not.
func must(holds bool, err api.Errno, place int) {
	if !holds {
		panic(fault{err, place})
	}
}

// program is what a program's names mean, whichever node they stand in.
type program struct {
	nodes map[string]int // their places
	ins   []int          // how many In each of them has
	enums set
	ctors set
}

func checkProgram(p api.Program) {
	all := &program{nodes: map[string]int{}, enums: set{}, ctors: set{}}
	for _, e := range p.Enums {
		all.enum(e)
	}
	for _, n := range p.Nodes {
		all.head(n)
	}
	for _, n := range p.Nodes {
		all.node(n)
	}
	if cycle := graph.Cycle(all.calls(p.Nodes)); len(cycle) > 0 {
		panic(fault{api.ErrRound, p.Nodes[cycle[0]].Pos})
	}
	at := Node(p, "main")
	must(at >= 0, api.ErrMain, 0)
	checkMain(p.Nodes[at])
}

func (p *program) enum(e api.Enum) {
	must(p.enums.add(e.Name), api.ErrTwice, e.Pos)
	for _, name := range e.Ctors {
		must(p.ctors.add(name), api.ErrTwice, e.Pos)
	}
}

// head notes of a node what others may ask of it, which may stand ahead of it.
func (p *program) head(n api.Node) {
	_, twice := p.nodes[n.Name]
	must(!twice, api.ErrTwice, n.Pos)
	p.nodes[n.Name] = len(p.ins)
	p.ins = append(p.ins, len(n.In))
}

// calls tells of each node the places of those that it calls.
func (p *program) calls(l []api.Node) [][]int {
	out := make([][]int, len(l))
	for i, n := range l {
		for _, name := range Calls(n) {
			out[i] = append(out[i], p.nodes[name])
		}
	}
	return out
}

func checkMain(n api.Node) {
	for _, v := range n.In {
		must(v.Type == "rat", api.ErrMain, n.Pos)
	}
}
