package events_test

import (
	"math"
	"slices"
	"strconv"
	"testing"

	"probecard/api"
	"probecard/logic"
	"probecard/netlists"
	"probecard/sims"
)

// named returns the circuit with names for its nodes.
func named(c api.Circuit) api.Circuit {
	c.Names = nil
	for i := range c.Nodes {
		c.Names = append(c.Names, "n"+strconv.Itoa(i))
	}
	return c
}

// of returns a circuit with the given nodes and outputs.
func of(outs []int, nodes ...api.Node) api.Circuit {
	return named(api.Circuit{Nodes: nodes, Outs: outs})
}

// in returns a node that reads the given nets.
func in(kind api.Kind, nets ...int) api.Node { return api.Node{Kind: kind, In: nets} }

// values returns the values of a text.
func values(s string) []api.Value {
	l, e := logic.Parse(s)
	if e != api.OK {
		panic("no values: " + s)
	}
	return l
}

// pattern returns the pattern with the values of two texts.
func pattern(in, state string) api.Pattern {
	return api.Pattern{In: values(in), State: values(state)}
}

// example returns the circuit of the example of chapter 6.
func example() api.Circuit {
	c := of([]int{3, 5}, in(api.Input), in(api.Dff, 3), in(api.Not, 0), in(api.And, 1, 2), in(api.Tri, 0, 2), in(api.Bus, 4))
	c.Names = []string{"a", "q", "n", "g", "t", "b"}
	return c
}

// full returns a valid circuit with nodes of all kinds but Mem, whose indices do not ascend with the levels. Loops lead through its Dff nodes.
// Its inputs are the nodes 1, 3 and 19, its states 2, 5 and 20.
func full() api.Circuit {
	return named(api.Circuit{
		Nodes: []api.Node{
			0:  in(api.Or, 11, 3),
			1:  in(api.Input),
			2:  in(api.Dff, 17),
			3:  in(api.Input),
			4:  in(api.One),
			5:  in(api.Dff, 5),
			6:  in(api.Zero),
			7:  in(api.Tri, 1, 10),
			8:  in(api.Tri, 3, 2),
			9:  in(api.And, 1, 3, 4),
			10: in(api.Nand, 9, 2),
			11: in(api.Nor, 6, 16),
			12: in(api.Xor, 0, 10, 5),
			13: in(api.Xnor, 12, 1),
			14: in(api.Mux, 3, 13, 2),
			15: in(api.Not, 14),
			16: in(api.Buf, 1),
			17: in(api.Bus, 7, 8, 7),
			18: in(api.Buf, 17),
			19: in(api.Input),
			20: in(api.Dff, 7),
		},
		Outs: []int{17, 15, 17, 7, 19, 1, 13},
	})
}

// withMemory returns the circuit full with a memory that no Mem node reads.
func withMemory() api.Circuit {
	c := full()
	c.Mems = []api.Memory{{Addr: []int{1, 0}, Data: []int{5}, Write: 17}}
	return c
}

// withMemNode returns the circuit full with a memory, and a Mem node in place of an input.
func withMemNode() api.Circuit {
	c := withMemory()
	c.Nodes[19].Kind = api.Mem
	return c
}

// chain returns an Input and n-1 Not nodes, of which each reads the one before it, or behind it if step is 1 (otherwise -1).
func chain(n, step int, outs ...int) api.Circuit {
	nodes := make([]api.Node, n)
	for i := range nodes {
		if from := i + step; from >= 0 && from < n {
			nodes[i] = in(api.Not, from)
		}
	}
	return of(outs, nodes...)
}

// random is a linear congruential generator, so that every run has the same circuits and patterns.
type random uint64

// below returns a number from 0 to n-1.
func (r *random) below(n int) int {
	*r = *r*6364136223846793005 + 1442695040888963407
	return int((uint64(*r) >> 33) % uint64(n))
}

// numbers returns count numbers from least to n-1.
func (r *random) numbers(count, least, n int) []int {
	l := make([]int, count)
	for i := range l {
		l[i] = least + r.below(n-least)
	}
	return l
}

// permutation returns the numbers from 0 to n-1 in some order.
func (r *random) permutation(n int) []int {
	l := make([]int, n)
	for i := range l {
		k := r.below(i + 1)
		l[i], l[k] = l[k], i
	}
	return l
}

// values returns count values below limit, most of them known.
func (r *random) values(count, limit int) []api.Value {
	l := make([]api.Value, count)
	for i := range l {
		l[i] = api.Value(r.below(2))
		if r.below(2) == 0 {
			l[i] = api.Value(r.below(limit))
		}
	}
	return l
}

// pattern returns a pattern for c with values below limit.
func (r *random) pattern(c api.Circuit, limit int) api.Pattern {
	return api.Pattern{In: r.values(len(netlists.Inputs(c)), limit), State: r.values(len(netlists.States(c)), limit)}
}

// near returns a pattern that differs from p in at most n values.
func (r *random) near(p api.Pattern, n int) api.Pattern {
	q := api.Pattern{In: slices.Clone(p.In), State: slices.Clone(p.State)}
	for range n {
		if l := [][]api.Value{q.In, q.State}[r.below(2)]; len(l) > 0 {
			l[r.below(len(l))] = api.Value(r.below(4))
		}
	}
	return q
}

// sequence returns n patterns for c, most of which differ from the one before in few values or not at all.
func (r *random) sequence(n int, c api.Circuit) []api.Pattern {
	l := make([]api.Pattern, n)
	p := sims.Blank(c)
	for i := range l {
		switch r.below(8) {
		case 0:
			p = r.pattern(c, 2)
		case 1:
			p = r.pattern(c, 4)
		case 2:
			p = sims.Blank(c)
		default:
			p = r.near(p, r.below(4))
		}
		l[i] = r.near(p, 0) // no two of them share memory
	}
	return l
}

// node returns the node i of a circuit of n nodes. Unless it is a Dff, it reads some of the nodes before it, mostly of the last few ones.
func (r *random) node(c api.Circuit, n int) api.Node {
	i := len(c.Nodes)
	least := max(0, i-1-r.below(6))
	if r.below(6) == 0 {
		least = 0
	}
	tris := netlists.Of(c, api.Tri)
	switch kind := api.Kind(r.below(18)); {
	case kind == api.Dff:
		return in(kind, r.below(n))
	case i == 0 || kind == api.Input || kind == api.Mem:
		return in(api.Input)
	case kind == api.Zero || kind == api.One:
		return in(kind)
	case kind == api.Tri || kind > api.Mem:
		return in(api.Tri, r.numbers(2, least, i)...)
	case kind == api.Mux:
		return in(kind, r.numbers(3, least, i)...)
	case kind == api.Bus && len(tris) > 0:
		nets := r.numbers(1+r.below(3), 0, len(tris))
		for k := range nets {
			nets[k] = tris[nets[k]]
		}
		return in(kind, nets...)
	case kind >= api.And && kind <= api.Xnor:
		return in(kind, r.numbers(2+r.below(2), least, i)...)
	}
	return in(api.Buf+api.Kind(r.below(2)), r.numbers(1, least, i)...)
}

// circuit returns a valid circuit of n nodes without memories, in no particular order.
func (r *random) circuit(n int) api.Circuit {
	var c api.Circuit
	for range n {
		c.Nodes = append(c.Nodes, r.node(c, n))
	}
	c.Outs = r.numbers(r.below(5), max(0, n-1-r.below(n)), n)
	return renumbered(c, r.permutation(n))
}

// renumbered returns c with the index to[i] for each node i.
func renumbered(c api.Circuit, to []int) api.Circuit {
	nets := func(l []int) []int {
		var out []int
		for _, net := range l {
			out = append(out, to[net])
		}
		return out
	}
	d := api.Circuit{Nodes: make([]api.Node, len(c.Nodes)), Outs: nets(c.Outs)}
	for i, n := range c.Nodes {
		d.Nodes[to[i]] = in(n.Kind, nets(n.In)...)
	}
	return named(d)
}

// broken returns a circuit with random kinds, pins, ports and outputs, few of which are valid.
func (r *random) broken() api.Circuit {
	n := r.below(9)
	c := api.Circuit{Nodes: make([]api.Node, n), Outs: r.numbers(r.below(4), -2, n+3)}
	for i := range c.Nodes {
		c.Nodes[i] = api.Node{Kind: api.Kind(11 + r.below(7)), In: r.numbers(r.below(4), -2, n+3), Mem: r.below(3) - 1, Bit: r.below(3) - 1}
		if r.below(4) == 0 {
			c.Nodes[i].Kind = api.Input
		}
	}
	for range r.below(3) {
		c.Mems = append(c.Mems, api.Memory{Addr: r.numbers(r.below(3), -2, n+2), Data: r.numbers(r.below(3), -2, n+2), Write: r.below(n+4) - 2})
	}
	if r.below(2) == 0 {
		c = named(c)
	}
	return c
}

// circuits returns ordinary circuits and random ones of up to most nodes, all of them valid and without memories.
func circuits(count, most int) []api.Circuit {
	l := []api.Circuit{{}, example(), full(), chain(12, 1, 0), chain(12, -1, 11, 7), chain(12, 1)}
	r := random(count + most)
	for range count {
		l = append(l, r.circuit(1+r.below(most)))
	}
	return l
}

// flaw is a change that makes the circuits full, withMemory and withMemNode invalid.
type flaw struct {
	name   string
	want   api.Errno
	change func(c *api.Circuit)
}

// flaws returns flaws with each of the errors of a circuit, and with two of them.
func flaws() []flaw {
	return []flaw{
		{"too many nodes", api.ErrLimit, func(c *api.Circuit) { *c = chain(api.MaxNodes+1, -1) }},
		{"too many memories", api.ErrLimit, func(c *api.Circuit) { c.Mems = make([]api.Memory, api.MaxMems+1) }},
		{"too many outputs", api.ErrLimit, func(c *api.Circuit) { c.Outs = make([]int, api.MaxNodes+1) }},
		{"a name too few", api.ErrWidth, func(c *api.Circuit) { c.Names = c.Names[1:] }},
		{"no kind", api.ErrKind, func(c *api.Circuit) { c.Nodes[4].Kind = 16 }},
		{"a Dff of two pins", api.ErrWidth, func(c *api.Circuit) { c.Nodes[2].In = []int{0, 1} }},
		{"a Dff of no pins", api.ErrWidth, func(c *api.Circuit) { c.Nodes[5].In = nil }},
		{"an And of one pin", api.ErrWidth, func(c *api.Circuit) { c.Nodes[9].In = []int{1} }},
		{"a pin behind the nodes", api.ErrArg, func(c *api.Circuit) { c.Nodes[10].In[1] = 21 }},
		{"a pin before the nodes", api.ErrArg, func(c *api.Circuit) { c.Nodes[20].In[0] = -1 }},
		{"a bus of a gate", api.ErrKind, func(c *api.Circuit) { c.Nodes[17].In[1] = 16 }},
		{"a Mem node without memory", api.ErrArg, func(c *api.Circuit) { c.Nodes[1].Kind, c.Mems = api.Mem, nil }},
		{"no name", api.ErrName, func(c *api.Circuit) { c.Names[20] = "" }},
		{"the same name", api.ErrName, func(c *api.Circuit) { c.Names[20] = c.Names[3] }},
		{"a memory without address", api.ErrWidth, func(c *api.Circuit) { c.Mems = []api.Memory{{Data: []int{0, 1}}} }},
		{"a port behind the nodes", api.ErrArg, func(c *api.Circuit) { c.Mems = []api.Memory{{Addr: []int{0}, Data: []int{0}, Write: 21}} }},
		{"an output behind the nodes", api.ErrArg, func(c *api.Circuit) { c.Outs[2] = math.MaxInt }},
		{"a loop", api.ErrLoop, func(c *api.Circuit) { c.Nodes[11].In[0] = 12 }},
		{"a node that reads itself", api.ErrLoop, func(c *api.Circuit) { c.Nodes[16].In[0] = 16 }},
		{"an output, and a loop", api.ErrArg, func(c *api.Circuit) { c.Outs[0], c.Nodes[16].In[0] = -1, 16 }},
		{"a name, and an output", api.ErrName, func(c *api.Circuit) { c.Names[0], c.Outs[0] = "a b", -1 }},
	}
}

// flawed returns the circuits full, withMemory and withMemNode after a change.
func flawed(change func(c *api.Circuit)) []api.Circuit {
	l := []api.Circuit{full(), withMemory(), withMemNode()}
	for i := range l {
		change(&l[i])
	}
	return l
}

// mistake is a change that makes a pattern for the circuit full invalid.
type mistake struct {
	name   string
	want   api.Errno
	change func(p *api.Pattern)
}

// mistakes returns other lengths, values above VZ, and both together.
func mistakes() []mistake {
	return []mistake{
		{"In too short", api.ErrWidth, func(p *api.Pattern) { p.In = p.In[1:] }},
		{"In too long", api.ErrWidth, func(p *api.Pattern) { p.In = append(p.In, 0) }},
		{"no In", api.ErrWidth, func(p *api.Pattern) { p.In = nil }},
		{"State too short", api.ErrWidth, func(p *api.Pattern) { p.State = p.State[1:] }},
		{"State too long", api.ErrWidth, func(p *api.Pattern) { p.State = append(p.State, 0) }},
		{"no State", api.ErrWidth, func(p *api.Pattern) { p.State = nil }},
		{"nothing", api.ErrWidth, func(p *api.Pattern) { *p = api.Pattern{} }},
		{"an element in the other list", api.ErrWidth, func(p *api.Pattern) { p.In, p.State = p.In[1:], append(p.State, 0) }},
		{"a value, and In too long", api.ErrWidth, func(p *api.Pattern) { p.In = append(p.In, 9) }},
		{"a value, and no State", api.ErrWidth, func(p *api.Pattern) { p.In[0], p.State = 255, nil }},
		{"a value first in In", api.ErrArg, func(p *api.Pattern) { p.In[0] = 4 }},
		{"a value last in In", api.ErrArg, func(p *api.Pattern) { p.In[2] = 128 }},
		{"a value first in State", api.ErrArg, func(p *api.Pattern) { p.State[0] = 5 }},
		{"a value last in State", api.ErrArg, func(p *api.Pattern) { p.State[2] = 255 }},
		{"values in both", api.ErrArg, func(p *api.Pattern) { p.In[1], p.State[1] = 4, 4 }},
	}
}

// TestCircuits checks that the circuits and patterns of the other tests are valid and not all alike.
func TestCircuits(t *testing.T) {
	kinds := map[api.Kind]int{}
	for i, c := range append(circuits(300, 30), withMemory(), withMemNode()) {
		if e := netlists.Check(c); e != api.OK {
			t.Errorf("circuit %d: error %d", i, e)
		}
		for _, n := range c.Nodes {
			kinds[n.Kind]++
		}
	}
	for kind := range api.Mem {
		if kinds[kind] < 50 {
			t.Errorf("%d nodes of kind %d", kinds[kind], kind)
		}
	}
	r := random(5)
	seen := map[api.Value]int{}
	distances := map[int]int{}
	old := sims.Blank(full())
	for _, p := range r.sequence(2000, full()) {
		distance := 0
		for i, v := range slices.Concat(p.In, p.State) {
			seen[v]++
			if v != slices.Concat(old.In, old.State)[i] {
				distance++
			}
		}
		distances[distance]++
		old = p
	}
	for v := range api.VZ + 1 {
		if seen[v] < 500 {
			t.Errorf("the values %v", seen)
		}
	}
	for distance := range 6 {
		if distances[distance] < 20 {
			t.Errorf("the distances %v", distances)
		}
	}
}
