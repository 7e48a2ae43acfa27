package collapses_test

import (
	"math"
	"slices"
	"strconv"
	"strings"
	"testing"

	"probecard/api"
	"probecard/benches"
	"probecard/faults"
	"probecard/netlists"
)

// read returns the circuit of a text whose lines are separated by semicolons.
func read(s string) api.Circuit {
	c, f := benches.Read(strings.ReplaceAll(s, "; ", "\n"))
	if f.E != api.OK {
		panic("no circuit: " + s)
	}
	return c
}

// parsed returns the fault with a text, which begins with the line if it is a stuck one.
func parsed(s string) api.Fault {
	if s[0] >= '0' && s[0] <= '9' {
		s = "stuck " + s
	}
	f, e := faults.Parse(s)
	if e != api.OK {
		panic("no fault: " + s)
	}
	return f
}

// list returns the faults of a text, which are separated by commas.
func list(s string) []api.Fault {
	var l []api.Fault
	for _, word := range words(s, ", ") {
		l = append(l, parsed(word))
	}
	return l
}

// words returns the parts of a text between separators; the empty text has none.
func words(s, separator string) []string {
	if s == "" {
		return nil
	}
	return strings.Split(s, separator)
}

// ints returns the numbers of a text, which are separated by spaces.
func ints(s string) []int {
	var l []int
	for _, word := range strings.Fields(s) {
		n, e := strconv.Atoi(word)
		if e != nil {
			panic("no number: " + word)
		}
		l = append(l, n)
	}
	return l
}

// lists returns the lists of numbers of a text, which are separated by semicolons.
func lists(s string) [][]int {
	var l [][]int
	for _, part := range words(s, "; ") {
		l = append(l, ints(part))
	}
	return l
}

// pairs returns the lists of a text as pairs.
func pairs(s string) [][2]int {
	var l [][2]int
	for _, x := range lists(s) {
		l = append(l, [2]int(x))
	}
	return l
}

// named returns the circuit with names for its nodes.
func named(c api.Circuit) api.Circuit {
	c.Names = nil
	for i := range c.Nodes {
		c.Names = append(c.Names, "n"+strconv.Itoa(i))
	}
	return c
}

// of returns a circuit with the given nodes and outputs.
func of(outs []int, nodes ...api.Node) api.Circuit {
	return named(api.Circuit{Nodes: nodes, Outs: outs})
}

// in returns a node that reads the given nets.
func in(kind api.Kind, nets ...int) api.Node { return api.Node{Kind: kind, In: nets} }

// at returns a line.
func at(node, pin int) api.Line { return api.Line{Node: node, Pin: pin} }

// example returns the circuit of the chapter's example.
func example() api.Circuit { return read("INPUT(a); INPUT(b); g = AND(a, b); OUTPUT(g)") }

// plain returns a valid circuit without memories with nodes of all kinds but Mem, whose indices do not ascend with the levels. Loops lead through its Dff nodes, one of which reads itself, and one a Tri node.
func plain() api.Circuit {
	return of([]int{17, 15, 17, 7, 19, 1, 13},
		in(api.Or, 11, 3),       // 0
		in(api.Input),           // 1
		in(api.Dff, 17),         // 2
		in(api.Input),           // 3
		in(api.One),             // 4
		in(api.Dff, 5),          // 5
		in(api.Zero),            // 6
		in(api.Tri, 1, 10),      // 7
		in(api.Tri, 3, 2),       // 8
		in(api.And, 1, 3, 4, 3), // 9
		in(api.Nand, 9, 2),      // 10
		in(api.Nor, 6, 16),      // 11
		in(api.Xor, 0, 10, 5),   // 12
		in(api.Xnor, 12, 1),     // 13
		in(api.Mux, 3, 13, 2),   // 14
		in(api.Not, 14),         // 15
		in(api.Buf, 1),          // 16
		in(api.Bus, 7, 8, 7),    // 17
		in(api.Buf, 17),         // 18
		in(api.Input),           // 19
		in(api.Dff, 7),          // 20
	)
}

// withMemory returns the circuit plain with a memory that no Mem node reads.
func withMemory() api.Circuit {
	c := plain()
	c.Mems = []api.Memory{{Addr: []int{1, 0}, Data: []int{5}, Write: 17}}
	return c
}

// withMemNode returns the circuit plain with a memory, and a Mem node in place of an input.
func withMemNode() api.Circuit {
	c := withMemory()
	c.Nodes[19].Kind = api.Mem
	return c
}

// random is a linear congruential generator, so that every run has the same circuits.
type random uint64

// below returns a number from 0 to n-1.
func (r *random) below(n int) int {
	*r = *r*6364136223846793005 + 1442695040888963407
	return int((uint64(*r) >> 33) % uint64(n))
}

// numbers returns count numbers from least to n-1.
func (r *random) numbers(count, least, n int) []int {
	l := make([]int, count)
	for i := range l {
		l[i] = least + r.below(n-least)
	}
	return l
}

// permutation returns the numbers from 0 to n-1 in some order.
func (r *random) permutation(n int) []int {
	l := make([]int, n)
	for i := range l {
		k := r.below(i + 1)
		l[i], l[k] = l[k], i
	}
	return l
}

// sketch is a circuit to which nodes are appended, most of which read nets that no other node reads.
type sketch struct {
	nodes  []api.Node
	unread map[api.Kind][]int // the nets that no node reads: those of Tri nodes, and the others under Input
	random
}

// net returns a net, of a Tri node if the kind is Tri, or false if there is none. No node has read it, unless all are read or by chance.
func (s *sketch) net(kind api.Kind) (int, bool) {
	var all []int
	for i, n := range s.nodes {
		if kind != api.Tri || n.Kind == api.Tri {
			all = append(all, i)
		}
	}
	switch l := s.unread[kind]; {
	case len(all) == 0:
		return 0, false
	case len(l) == 0 || s.below(4) == 0:
		return all[s.below(len(all))], true
	default:
		k := s.below(len(l))
		net := l[k]
		s.unread[kind] = slices.Delete(l, k, k+1)
		return net, true
	}
}

// add appends a node that reads the given nets.
func (s *sketch) add(kind api.Kind, nets ...int) {
	group := api.Input
	if kind == api.Tri {
		group = api.Tri
	}
	s.unread[group] = append(s.unread[group], len(s.nodes))
	s.nodes = append(s.nodes, in(kind, nets...))
}

// grown returns the kind of a number below 26: most are those of gates with rules.
func grown(number int) api.Kind {
	switch {
	case number > 23:
		return api.Tri + api.Kind(number-24)
	case number > 15:
		return api.And + api.Kind(number%4)
	}
	return api.Kind(number)
}

// grow appends a node of a random kind. Dff nodes read net 0 at first.
func (s *sketch) grow() {
	kind := grown(s.below(26))
	var pins int
	source := api.Input
	switch {
	case len(s.nodes) == 0 || kind == api.Input || kind == api.Mem:
		s.add(api.Input)
		return
	case kind == api.Zero || kind == api.One || kind == api.Dff:
		s.add(kind, make([]int, kind/api.Dff)...)
		return
	case kind == api.Buf || kind == api.Not:
		pins = 1
	case kind == api.Mux:
		pins = 3
	case kind == api.Tri:
		pins = 2
	case kind == api.Bus:
		pins, source = 1+s.below(3)/2, api.Tri
	default:
		pins = 2 + s.below(3)/2
	}
	var nets []int
	for range pins {
		if net, ok := s.net(source); ok {
			nets = append(nets, net)
		}
	}
	if len(nets) == pins {
		s.add(kind, nets...)
	}
}

// circuit returns a valid circuit of n nodes without memories, in no particular order.
func (r *random) circuit(n int) api.Circuit {
	s := sketch{unread: map[api.Kind][]int{}, random: *r}
	for len(s.nodes) < n {
		s.grow()
	}
	*r = s.random
	for i, x := range s.nodes {
		if x.Kind == api.Dff {
			s.nodes[i].In[0] = r.below(n)
			if l := s.unread[api.Input]; r.below(3) > 0 && len(l) > 0 {
				s.nodes[i].In[0] = l[r.below(len(l))]
			}
		}
	}
	outs := r.numbers(r.below(2), 0, n)
	if r.below(4) > 0 {
		outs = append(outs, s.unread[api.Input]...)
	}
	return renumbered(of(outs, s.nodes...), r.permutation(n))
}

// renumbered returns c with the index to[i] for each node i.
func renumbered(c api.Circuit, to []int) api.Circuit {
	nodes := make([]api.Node, len(c.Nodes))
	for i, n := range c.Nodes {
		m := api.Node{Kind: n.Kind}
		for _, net := range n.In {
			m.In = append(m.In, to[net])
		}
		nodes[to[i]] = m
	}
	var outs []int
	for _, net := range c.Outs {
		outs = append(outs, to[net])
	}
	return of(outs, nodes...)
}

// broken returns a circuit with random kinds, pins, ports and outputs, few of which are valid.
func (r *random) broken() api.Circuit {
	n := r.below(9)
	c := api.Circuit{Nodes: make([]api.Node, n), Outs: r.numbers(r.below(4), -2, n+3)}
	for i := range c.Nodes {
		c.Nodes[i] = api.Node{Kind: api.Kind(11 + r.below(7)), In: r.numbers(r.below(4), -2, n+3), Mem: r.below(3) - 1, Bit: r.below(3) - 1}
		if r.below(4) == 0 {
			c.Nodes[i].Kind = api.Input
		}
	}
	for range r.below(3) {
		c.Mems = append(c.Mems, api.Memory{Addr: r.numbers(r.below(3), -2, n+2), Data: r.numbers(r.below(3), -2, n+2), Write: r.below(n+4) - 2})
	}
	if r.below(2) == 0 {
		c = named(c)
	}
	return c
}

// all returns the faults of some models of a valid circuit without memories.
func all(c api.Circuit, models ...api.Model) []api.Fault {
	var l []api.Fault
	for _, m := range models {
		more, e := faults.All(c, m)
		if e != api.OK {
			panic("no list of faults: " + strconv.Itoa(int(e)))
		}
		l = append(l, more...)
	}
	return l
}

// some returns count elements of l, some of them repeatedly.
func (r *random) some(count int, l []api.Fault) []api.Fault {
	var out []api.Fault
	for range count {
		if len(l) > 0 {
			out = append(out, l[r.below(len(l))])
		}
	}
	return out
}

// shuffled returns the elements of l in some order.
func (r *random) shuffled(l []api.Fault) []api.Fault {
	var out []api.Fault
	for _, i := range r.permutation(len(l)) {
		out = append(out, l[i])
	}
	return out
}

// faultLists returns lists of faults of a valid circuit without memories: all stuck ones in two orders, some of them, and some of all models.
func (r *random) faultLists(c api.Circuit) [][]api.Fault {
	stuck := all(c, api.Stuck)
	mixed := slices.Concat(stuck, r.some(20, all(c, api.Slow)), r.some(10, all(c, api.Wired)), r.some(10, all(c, api.Strong)))
	n := len(stuck)
	return [][]api.Fault{stuck, r.shuffled(stuck), r.shuffled(stuck)[:n/2], r.some(n/3, stuck), r.some(2*n, stuck), r.shuffled(mixed), r.some(n, mixed)}
}

// circuits returns ordinary circuits and random ones of up to most nodes, all of them valid and without memories.
func circuits(count, most int) []api.Circuit {
	l := []api.Circuit{
		{}, example(), plain(),
		of([]int{1}, in(api.Input), in(api.Dff, 0)),
		of([]int{0, 1, 0}, in(api.Dff, 1), in(api.Not, 0)),
		of(nil, in(api.Dff, 0), in(api.Dff, 0), in(api.Dff, 1)),
		of([]int{0}, in(api.Nor, 2, 2), in(api.One), in(api.Input)),
		of([]int{0, 0}, in(api.Zero)),
		of([]int{4, 3, 5}, in(api.Input), in(api.Tri, 0, 0), in(api.Tri, 0, 0), in(api.Bus, 1, 2, 1), in(api.Bus, 1), in(api.Dff, 1)),
	}
	r := random(count + most)
	for range count {
		l = append(l, r.circuit(1+r.below(most)))
	}
	return l
}

// flaw is a change that makes the circuits plain, withMemory and withMemNode invalid.
type flaw struct {
	name   string
	want   api.Errno
	change func(c *api.Circuit)
}

// flaws returns flaws with each of the errors of a circuit, and with two of them.
func flaws() []flaw {
	return []flaw{
		{"too many nodes", api.ErrLimit, func(c *api.Circuit) { c.Nodes = make([]api.Node, api.MaxNodes+1); *c = named(*c) }},
		{"too many memories", api.ErrLimit, func(c *api.Circuit) { c.Mems = make([]api.Memory, api.MaxMems+1) }},
		{"too many outputs", api.ErrLimit, func(c *api.Circuit) { c.Outs = make([]int, api.MaxNodes+1) }},
		{"a name too few", api.ErrWidth, func(c *api.Circuit) { c.Names = c.Names[1:] }},
		{"no kind", api.ErrKind, func(c *api.Circuit) { c.Nodes[4].Kind = 16 }},
		{"a Dff of two pins", api.ErrWidth, func(c *api.Circuit) { c.Nodes[2].In = []int{0, 1} }},
		{"a Dff of no pins", api.ErrWidth, func(c *api.Circuit) { c.Nodes[5].In = nil }},
		{"a pin behind the nodes", api.ErrArg, func(c *api.Circuit) { c.Nodes[10].In[1] = len(c.Nodes) }},
		{"a Dff that reads no node", api.ErrArg, func(c *api.Circuit) { c.Nodes[20].In[0] = -1 }},
		{"a bus of a gate", api.ErrKind, func(c *api.Circuit) { c.Nodes[17].In[1] = 16 }},
		{"a Mem node without memory", api.ErrArg, func(c *api.Circuit) { c.Nodes[1].Kind, c.Mems = api.Mem, nil }},
		{"a Buf with a bit", api.ErrArg, func(c *api.Circuit) { c.Nodes[16].Bit = 1 }},
		{"the same name", api.ErrName, func(c *api.Circuit) { c.Names[20] = c.Names[3] }},
		{"a memory without address", api.ErrWidth, func(c *api.Circuit) { c.Mems = append(c.Mems, api.Memory{Data: []int{0}}) }},
		{"an output behind the nodes", api.ErrArg, func(c *api.Circuit) { c.Outs[2] = math.MaxInt }},
		{"a loop", api.ErrLoop, func(c *api.Circuit) { c.Nodes[11].In[0] = 12 }},
		{"a Buf that reads itself", api.ErrLoop, func(c *api.Circuit) { c.Nodes[16].In[0] = 16 }},
		{"an output, and a loop", api.ErrArg, func(c *api.Circuit) { c.Outs[0], c.Nodes[16].In[0] = -1, 16 }},
		{"a name, and an output", api.ErrName, func(c *api.Circuit) { c.Names[0], c.Outs[0] = "a b", -1 }},
	}
}

// flawed returns the circuits plain, withMemory and withMemNode after a change.
func flawed(change func(c *api.Circuit)) []api.Circuit {
	l := []api.Circuit{plain(), withMemory(), withMemNode()}
	for i := range l {
		change(&l[i])
	}
	return l
}

// TestCircuits checks that the circuits of the other tests are valid and have nodes of all kinds, with and without sole pins, and that the flawed ones have their errors.
func TestCircuits(t *testing.T) {
	kinds, soles := map[api.Kind]int{}, map[api.Kind]int{}
	for i, c := range circuits(300, 25) {
		if e := netlists.Check(c); e != api.OK || len(c.Mems) > 0 {
			t.Errorf("circuit %d: error %d and %d memories", i, e, len(c.Mems))
		}
		for i, n := range c.Nodes {
			kinds[n.Kind]++
			if _, ok := solePinOf(c, i); ok {
				soles[n.Kind]++
			}
		}
	}
	for kind := range api.Mem {
		if kinds[kind] < 50 || soles[kind] < 15 || soles[kind] > kinds[kind]-15 {
			t.Errorf("%d nodes of kind %d, %d of them with a sole pin", kinds[kind], kind, soles[kind])
		}
	}
	for _, c := range []api.Circuit{withMemory(), withMemNode()} {
		if e := netlists.Check(c); e != api.OK || len(c.Mems) == 0 {
			t.Errorf("error %d and %d memories", e, len(c.Mems))
		}
	}
	for _, f := range flaws() {
		for _, c := range flawed(f.change) {
			if e := netlists.Check(c); e != f.want {
				t.Errorf("%s: netlists.Check returns %d, not %d", f.name, e, f.want)
			}
		}
	}
}
