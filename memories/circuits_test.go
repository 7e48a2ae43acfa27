package memories_test

import (
	"math"
	"slices"
	"strconv"
	"strings"
	"testing"

	"probecard/api"
	"probecard/logic"
	. "probecard/memories"
	"probecard/netlists"
)

// named returns the circuit with names for its nodes.
func named(c api.Circuit) api.Circuit {
	c.Names = nil
	for i := range c.Nodes {
		c.Names = append(c.Names, "n"+strconv.Itoa(i))
	}
	return c
}

// of returns a circuit with the given nodes and outputs.
func of(outs []int, nodes ...api.Node) api.Circuit {
	return named(api.Circuit{Nodes: nodes, Outs: outs})
}

// in returns a node that reads the given nets.
func in(kind api.Kind, nets ...int) api.Node { return api.Node{Kind: kind, In: nets} }

// values returns the values of a text.
func values(s string) []api.Value {
	l, e := logic.Parse(s)
	if e != api.OK {
		panic("no values: " + s)
	}
	return l
}

// words returns the words of a text, with commas between them.
func words(s string) [][]api.Value {
	var out [][]api.Value
	for w := range strings.SplitSeq(s, ",") {
		out = append(out, values(w))
	}
	return out
}

// text returns the text of words.
func text(l [][]api.Value) string {
	var out []string
	for _, w := range l {
		out = append(out, logic.Text(w...))
	}
	return strings.Join(out, ",")
}

// state returns the state with the values of the Dff nodes, and for each memory the text of its words and of the word that it has read last.
func state(dff string, memories ...string) State {
	s := State{Dff: values(dff)}
	for i := 0; i < len(memories); i += 2 {
		s.Words = append(s.Words, words(memories[i]))
		s.Read = append(s.Read, values(memories[i+1]))
	}
	return s
}

// show returns the text of a state.
func show(s State) string {
	var memories []string
	for _, l := range s.Words {
		memories = append(memories, text(l))
	}
	return logic.Text(s.Dff...) + "; " + strings.Join(memories, " ") + "; " + text(s.Read)
}

// small returns a circuit with a memory of 2 words of 2 bits, which stores a Dff and the complement of a bit that it has read.
func small() api.Circuit {
	c := of([]int{6, 3}, in(api.Input), in(api.Input), in(api.Dff, 5), in(api.Mem), api.Node{Kind: api.Mem, Bit: 1}, in(api.Not, 3), in(api.Xor, 4, 2))
	c.Mems = []api.Memory{{Addr: []int{0}, Data: []int{5, 2}, Write: 1}}
	return c
}

// ram returns a memory whose address, data and write enable are inputs, in this order, and whose bits are outputs.
func ram(addr, data int) api.Circuit {
	var c api.Circuit
	for range addr + data + 1 {
		c.Nodes = append(c.Nodes, in(api.Input))
	}
	for b := range data {
		c.Outs = append(c.Outs, len(c.Nodes))
		c.Nodes = append(c.Nodes, api.Node{Kind: api.Mem, Bit: b})
	}
	c.Mems = []api.Memory{{Addr: numbers(0, addr), Data: numbers(addr, addr+data), Write: addr + data}}
	return named(c)
}

// numbers returns the numbers from a to b-1.
func numbers(a, b int) []int {
	var l []int
	for i := a; i < b; i++ {
		l = append(l, i)
	}
	return l
}

// row returns a circuit with several memories: the address of each is what the one before it has read, and the first one stores what the last one has read.
// Its inputs are the address of the first memory and the write enable of all, its outputs the bits of the last.
func row(n int) api.Circuit {
	c := of(nil, in(api.Input), in(api.Input), in(api.Input))
	from := []int{0, 1}
	for m := range n {
		c.Mems = append(c.Mems, api.Memory{Addr: from, Data: []int{3 + 2*n - 1, 3 + 2*n - 2}, Write: 2})
		from = []int{len(c.Nodes), len(c.Nodes) + 1}
		c.Nodes = append(c.Nodes, api.Node{Kind: api.Mem, Mem: m}, api.Node{Kind: api.Mem, Mem: m, Bit: 1})
	}
	c.Outs = from
	return named(c)
}

// plain returns a valid circuit without memories with nodes of all kinds but Mem, whose indices do not ascend with the levels. Loops lead through its Dff nodes.
// Its inputs are the nodes 1, 3 and 19, its states 2, 5 and 20.
func plain() api.Circuit {
	return named(api.Circuit{
		Nodes: []api.Node{
			0:  in(api.Or, 11, 3),
			1:  in(api.Input),
			2:  in(api.Dff, 17),
			3:  in(api.Input),
			4:  in(api.One),
			5:  in(api.Dff, 5),
			6:  in(api.Zero),
			7:  in(api.Tri, 1, 10),
			8:  in(api.Tri, 3, 2),
			9:  in(api.And, 1, 3, 4),
			10: in(api.Nand, 9, 2),
			11: in(api.Nor, 6, 16),
			12: in(api.Xor, 0, 10, 5),
			13: in(api.Xnor, 12, 1),
			14: in(api.Mux, 3, 13, 2),
			15: in(api.Not, 14),
			16: in(api.Buf, 1),
			17: in(api.Bus, 7, 8, 7),
			18: in(api.Buf, 17),
			19: in(api.Input),
			20: in(api.Dff, 7),
		},
		Outs: []int{17, 15, 17, 7, 19, 1, 13},
	})
}

// full returns the circuit plain with two memories, one of 4 words of 3 bits and one of 2 words of 1 bit, and with nodes that read them.
func full() api.Circuit {
	c := plain()
	c.Nodes = append(c.Nodes,
		api.Node{Kind: api.Mem},                 // 21
		api.Node{Kind: api.Mem, Bit: 2},         // 22
		api.Node{Kind: api.Mem, Mem: 1},         // 23
		api.Node{Kind: api.Mem, Mem: 0, Bit: 0}, // 24
		in(api.Nand, 21, 23),                    // 25
		in(api.Tri, 22, 25),                     // 26
		in(api.Bus, 26, 8),                      // 27
		in(api.Buf, 27),                         // 28
	)
	c.Mems = []api.Memory{
		{Addr: []int{1, 17}, Data: []int{0, 25, 22}, Write: 7},
		{Addr: []int{23}, Data: []int{27}, Write: 28},
	}
	c.Outs = []int{17, 15, 21, 7, 28, 22, 19}
	return named(c)
}

// most returns a circuit of as many memories as there may be, each of as many words and bits as there may be.
func most() api.Circuit {
	c := ram(api.MaxAddr, api.MaxWord)
	for m := 1; m < api.MaxMems; m++ {
		c.Mems = append(c.Mems, c.Mems[0])
		c.Nodes = append(c.Nodes, api.Node{Kind: api.Mem, Mem: m, Bit: api.MaxWord - 1})
	}
	return named(c)
}

// random is a linear congruential generator, so that every run has the same circuits and patterns.
type random uint64

// below returns a number from 0 to n-1.
func (r *random) below(n int) int {
	*r = *r*6364136223846793005 + 1442695040888963407
	return int((uint64(*r) >> 33) % uint64(n))
}

// numbers returns count numbers from least to n-1.
func (r *random) numbers(count, least, n int) []int {
	l := make([]int, count)
	for i := range l {
		l[i] = least + r.below(n-least)
	}
	return l
}

// permutation returns the numbers from 0 to n-1 in some order.
func (r *random) permutation(n int) []int {
	l := make([]int, n)
	for i := range l {
		k := r.below(i + 1)
		l[i], l[k] = l[k], i
	}
	return l
}

// values returns count values below limit, most of them known.
func (r *random) values(count, limit int) []api.Value {
	l := make([]api.Value, count)
	for i := range l {
		l[i] = api.Value(r.below(2))
		if r.below(2) == 0 {
			l[i] = api.Value(r.below(limit))
		}
	}
	return l
}

// words returns random words, not all of which have the same number of bits.
func (r *random) words(limit int) [][]api.Value {
	width := r.below(5)
	l := make([][]api.Value, r.below(10))
	for i := range l {
		l[i] = r.values(width, limit)
		if r.below(12) == 0 {
			l[i] = r.values(r.below(6), limit)
		}
	}
	return l
}

// state returns a state of a circuit with values below limit.
func (r *random) state(c api.Circuit, limit int) State {
	s := State{Dff: r.values(len(netlists.States(c)), limit)}
	for _, m := range c.Mems {
		var l [][]api.Value
		for range 1 << len(m.Addr) {
			l = append(l, r.values(len(m.Data), limit))
		}
		s.Words = append(s.Words, l)
		s.Read = append(s.Read, r.values(len(m.Data), limit))
	}
	return s
}

// inputs returns values of the inputs of a circuit, below limit.
func (r *random) inputs(c api.Circuit, limit int) []api.Value {
	return r.values(len(netlists.Inputs(c)), limit)
}

// node returns the node i of a circuit of n nodes. Unless it is a Dff, it reads some of the nodes before it, mostly of the last few ones.
func (r *random) node(c api.Circuit, n int) api.Node {
	i := len(c.Nodes)
	least := max(0, i-1-r.below(6))
	if r.below(6) == 0 {
		least = 0
	}
	tris := netlists.Of(c, api.Tri)
	switch kind := api.Kind(r.below(19)); {
	case kind >= api.Mem && r.below(5) > 0 && len(c.Mems) > 0:
		m := r.below(len(c.Mems))
		return api.Node{Kind: api.Mem, Mem: m, Bit: r.below(len(c.Mems[m].Data))}
	case kind == api.Dff:
		return in(kind, r.below(n))
	case i == 0 || kind == api.Input || kind == api.Mem:
		return in(api.Input)
	case kind == api.Zero || kind == api.One:
		return in(kind)
	case kind == api.Tri || kind > api.Mem:
		return in(api.Tri, r.numbers(2, least, i)...)
	case kind == api.Mux:
		return in(kind, r.numbers(3, least, i)...)
	case kind == api.Bus && len(tris) > 0:
		nets := r.numbers(1+r.below(3), 0, len(tris))
		for k := range nets {
			nets[k] = tris[nets[k]]
		}
		return in(kind, nets...)
	case kind >= api.And && kind <= api.Xnor:
		return in(kind, r.numbers(2+r.below(2), least, i)...)
	}
	return in(api.Buf+api.Kind(r.below(2)), r.numbers(1, least, i)...)
}

// circuit returns a valid circuit of n nodes and up to most memories, in no particular order.
func (r *random) circuit(n, most int) api.Circuit {
	var c api.Circuit
	for range r.below(most + 1) {
		c.Mems = append(c.Mems, api.Memory{Addr: r.numbers(1+r.below(3), 0, n), Data: r.numbers(1+r.below(3), 0, n), Write: r.below(n)})
	}
	for range n {
		c.Nodes = append(c.Nodes, r.node(c, n))
	}
	c.Outs = r.numbers(r.below(5), max(0, n-1-r.below(n)), n)
	return renumbered(c, r.permutation(n))
}

// renumbered returns c with the index to[i] for each node i.
func renumbered(c api.Circuit, to []int) api.Circuit {
	nets := func(l []int) []int {
		var out []int
		for _, net := range l {
			out = append(out, to[net])
		}
		return out
	}
	d := api.Circuit{Nodes: make([]api.Node, len(c.Nodes)), Outs: nets(c.Outs)}
	for i, n := range c.Nodes {
		d.Nodes[to[i]] = api.Node{Kind: n.Kind, In: nets(n.In), Mem: n.Mem, Bit: n.Bit}
	}
	for _, m := range c.Mems {
		d.Mems = append(d.Mems, api.Memory{Addr: nets(m.Addr), Data: nets(m.Data), Write: to[m.Write]})
	}
	return named(d)
}

// broken returns a circuit with random kinds, pins, ports and outputs, few of which are valid.
func (r *random) broken() api.Circuit {
	n := r.below(9)
	c := api.Circuit{Nodes: make([]api.Node, n), Outs: r.numbers(r.below(4), -2, n+3)}
	for i := range c.Nodes {
		c.Nodes[i] = api.Node{Kind: api.Kind(11 + r.below(7)), In: r.numbers(r.below(4), -2, n+3), Mem: r.below(3) - 1, Bit: r.below(3) - 1}
		if r.below(4) == 0 {
			c.Nodes[i].Kind = api.Input
		}
	}
	for range r.below(3) {
		c.Mems = append(c.Mems, api.Memory{Addr: r.numbers(r.below(3), -2, n+2), Data: r.numbers(r.below(3), -2, n+2), Write: r.below(n+4) - 2})
	}
	if r.below(2) == 0 {
		c = named(c)
	}
	return c
}

// circuits returns ordinary circuits and random ones of up to most nodes, all of them valid.
func circuits(count, most int) []api.Circuit {
	l := []api.Circuit{{}, small(), ram(1, 1), ram(3, 2), row(3), plain(), full(), of([]int{1}, in(api.Input), in(api.Not, 0))}
	r := random(count + most)
	for range count {
		l = append(l, r.circuit(1+r.below(most), 3))
	}
	return l
}

// flaw is a change that makes the circuits plain and full invalid.
type flaw struct {
	name   string
	want   api.Errno
	change func(c *api.Circuit)
}

// flaws returns flaws with each of the errors of a circuit, and with two of them.
func flaws() []flaw {
	memory := func(m api.Memory) func(c *api.Circuit) {
		return func(c *api.Circuit) { c.Mems = append(c.Mems, m) }
	}
	one := []int{0}
	return []flaw{
		{"too many nodes", api.ErrLimit, func(c *api.Circuit) { c.Nodes = make([]api.Node, api.MaxNodes+1); *c = named(*c) }},
		{"too many memories", api.ErrLimit, func(c *api.Circuit) { c.Mems = make([]api.Memory, api.MaxMems+1) }},
		{"too many outputs", api.ErrLimit, func(c *api.Circuit) { c.Outs = make([]int, api.MaxNodes+1) }},
		{"a name too few", api.ErrWidth, func(c *api.Circuit) { c.Names = c.Names[1:] }},
		{"no kind", api.ErrKind, func(c *api.Circuit) { c.Nodes[4].Kind = 16 }},
		{"a Dff of two pins", api.ErrWidth, func(c *api.Circuit) { c.Nodes[2].In = []int{0, 1} }},
		{"a Dff of no pins", api.ErrWidth, func(c *api.Circuit) { c.Nodes[5].In = nil }},
		{"a Mem node of one pin", api.ErrWidth, func(c *api.Circuit) { c.Nodes[1] = in(api.Mem, 0) }},
		{"a pin behind the nodes", api.ErrArg, func(c *api.Circuit) { c.Nodes[10].In[1] = len(c.Nodes) }},
		{"a pin before the nodes", api.ErrArg, func(c *api.Circuit) { c.Nodes[20].In[0] = -1 }},
		{"a bus of a gate", api.ErrKind, func(c *api.Circuit) { c.Nodes[17].In[1] = 16 }},
		{"a Mem node without memory", api.ErrArg, func(c *api.Circuit) { c.Nodes[1].Kind, c.Mems = api.Mem, nil }},
		{"a Mem node behind the memories", api.ErrArg, func(c *api.Circuit) { c.Nodes[1] = api.Node{Kind: api.Mem, Mem: len(c.Mems)} }},
		{"a Mem node before the memories", api.ErrArg, func(c *api.Circuit) { c.Nodes[1] = api.Node{Kind: api.Mem, Mem: -1} }},
		{"a Mem node behind the bits", api.ErrArg, func(c *api.Circuit) { c.Nodes[1] = api.Node{Kind: api.Mem, Bit: 3} }},
		{"a Mem node before the bits", api.ErrArg, func(c *api.Circuit) { c.Nodes[1] = api.Node{Kind: api.Mem, Bit: -1} }},
		{"a Buf with a memory", api.ErrArg, func(c *api.Circuit) { c.Nodes[16].Mem = 1 }},
		{"a Buf with a bit", api.ErrArg, func(c *api.Circuit) { c.Nodes[16].Bit = 1 }},
		{"no name", api.ErrName, func(c *api.Circuit) { c.Names[20] = "" }},
		{"the same name", api.ErrName, func(c *api.Circuit) { c.Names[20] = c.Names[3] }},
		{"a memory without address", api.ErrWidth, memory(api.Memory{Data: one})},
		{"a memory without data", api.ErrWidth, memory(api.Memory{Addr: one})},
		{"a memory of too many words", api.ErrWidth, memory(api.Memory{Addr: make([]int, api.MaxAddr+1), Data: one})},
		{"a memory of too many bits", api.ErrWidth, memory(api.Memory{Addr: one, Data: make([]int, api.MaxWord+1)})},
		{"a write enable behind the nodes", api.ErrArg, memory(api.Memory{Addr: one, Data: one, Write: 29})},
		{"a write enable before the nodes", api.ErrArg, memory(api.Memory{Addr: one, Data: one, Write: -1})},
		{"an address bit before the nodes", api.ErrArg, memory(api.Memory{Addr: []int{0, -1}, Data: one})},
		{"a data bit behind the nodes", api.ErrArg, memory(api.Memory{Addr: one, Data: []int{math.MaxInt}})},
		{"an output behind the nodes", api.ErrArg, func(c *api.Circuit) { c.Outs[2] = math.MaxInt }},
		{"a loop", api.ErrLoop, func(c *api.Circuit) { c.Nodes[11].In[0] = 12 }},
		{"a node that reads itself", api.ErrLoop, func(c *api.Circuit) { c.Nodes[16].In[0] = 16 }},
		{"an output, and a loop", api.ErrArg, func(c *api.Circuit) { c.Outs[0], c.Nodes[16].In[0] = -1, 16 }},
		{"a name, and an output", api.ErrName, func(c *api.Circuit) { c.Names[0], c.Outs[0] = "a b", -1 }},
	}
}

// flawed returns the circuits plain and full after a change.
func flawed(change func(c *api.Circuit)) []api.Circuit {
	l := []api.Circuit{plain(), full()}
	for i := range l {
		change(&l[i])
	}
	return l
}

// mistake is a change that makes a state and inputs for the circuit full invalid.
type mistake struct {
	name   string
	want   api.Errno
	change func(s *State, in *[]api.Value)
}

// lengths returns mistakes with other lengths of inputs and of each part of a state.
func lengths() []mistake {
	more := func(l *[]api.Value) { *l = append(*l, 0) }
	less := func(l *[]api.Value) { *l = (*l)[1:] }
	return []mistake{
		{"in too short", api.ErrWidth, func(s *State, in *[]api.Value) { less(in) }},
		{"in too long", api.ErrWidth, func(s *State, in *[]api.Value) { more(in) }},
		{"no in", api.ErrWidth, func(s *State, in *[]api.Value) { *in = nil }},
		{"Dff too short", api.ErrWidth, func(s *State, in *[]api.Value) { less(&s.Dff) }},
		{"Dff too long", api.ErrWidth, func(s *State, in *[]api.Value) { more(&s.Dff) }},
		{"an input for a Dff", api.ErrWidth, func(s *State, in *[]api.Value) { less(in); more(&s.Dff) }},
		{"no Dff", api.ErrWidth, func(s *State, in *[]api.Value) { s.Dff = nil }},
		{"no Words", api.ErrWidth, func(s *State, in *[]api.Value) { s.Words = nil }},
		{"Words of one memory", api.ErrWidth, func(s *State, in *[]api.Value) { s.Words = s.Words[:1] }},
		{"Words of three memories", api.ErrWidth, func(s *State, in *[]api.Value) { s.Words = append(s.Words, s.Words[1]) }},
		{"Words in another order", api.ErrWidth, func(s *State, in *[]api.Value) { slices.Reverse(s.Words) }},
		{"a memory without words", api.ErrWidth, func(s *State, in *[]api.Value) { s.Words[1] = nil }},
		{"a memory with a word too few", api.ErrWidth, func(s *State, in *[]api.Value) { s.Words[0] = s.Words[0][:3] }},
		{"a memory with a word too many", api.ErrWidth, func(s *State, in *[]api.Value) { s.Words[1] = append(s.Words[1], values("0")) }},
		{"a first word too short", api.ErrWidth, func(s *State, in *[]api.Value) { less(&s.Words[0][0]) }},
		{"a last word too short", api.ErrWidth, func(s *State, in *[]api.Value) { less(&s.Words[0][3]) }},
		{"a word without bits", api.ErrWidth, func(s *State, in *[]api.Value) { s.Words[1][1] = nil }},
		{"a word too long", api.ErrWidth, func(s *State, in *[]api.Value) { more(&s.Words[1][0]) }},
		{"no Read", api.ErrWidth, func(s *State, in *[]api.Value) { s.Read = nil }},
		{"Read of one memory", api.ErrWidth, func(s *State, in *[]api.Value) { s.Read = s.Read[1:] }},
		{"Read of three memories", api.ErrWidth, func(s *State, in *[]api.Value) { s.Read = append(s.Read, s.Read[1]) }},
		{"Read in another order", api.ErrWidth, func(s *State, in *[]api.Value) { slices.Reverse(s.Read) }},
		{"a word read too short", api.ErrWidth, func(s *State, in *[]api.Value) { less(&s.Read[0]) }},
		{"a word read too long", api.ErrWidth, func(s *State, in *[]api.Value) { more(&s.Read[1]) }},
		{"no state", api.ErrWidth, func(s *State, in *[]api.Value) { *s = State{} }},
		{"nothing", api.ErrWidth, func(s *State, in *[]api.Value) { *s, *in = State{}, nil }},
	}
}

// strange returns mistakes with the value v, which neither inputs nor states may have.
func strange(v api.Value) []mistake {
	name := "the value " + strconv.Itoa(int(v))
	l := []mistake{
		{name + " last in in", api.ErrArg, func(s *State, in *[]api.Value) { (*in)[2] = v }},
		{name + " first in in", api.ErrArg, func(s *State, in *[]api.Value) { (*in)[0] = v }},
		{name + " everywhere", api.ErrArg, func(s *State, in *[]api.Value) { (*in)[1], s.Dff[1], s.Words[0][1][1], s.Read[1][0] = v, v, v, v }},
	}
	if v == api.VZ { // in inputs it is right
		l = nil
	}
	return append(l,
		mistake{name + " first in Dff", api.ErrArg, func(s *State, in *[]api.Value) { s.Dff[0] = v }},
		mistake{name + " last in Dff", api.ErrArg, func(s *State, in *[]api.Value) { s.Dff[2] = v }},
		mistake{name + " first in Words", api.ErrArg, func(s *State, in *[]api.Value) { s.Words[0][0][0] = v }},
		mistake{name + " last in a word", api.ErrArg, func(s *State, in *[]api.Value) { s.Words[0][2][2] = v }},
		mistake{name + " last in Words", api.ErrArg, func(s *State, in *[]api.Value) { s.Words[1][1][0] = v }},
		mistake{name + " first in Read", api.ErrArg, func(s *State, in *[]api.Value) { s.Read[0][0] = v }},
		mistake{name + " last in Read", api.ErrArg, func(s *State, in *[]api.Value) { s.Read[1][0] = v }})
}

// mistakes returns all mistakes, and each pair of a length and a value.
func mistakes() []mistake {
	l := lengths()
	for _, v := range []api.Value{api.VZ, 4, 5, 128, 255} {
		l = append(l, strange(v)...)
	}
	for _, a := range lengths() {
		for _, b := range strange(4) {
			l = append(l, mistake{b.name + ", " + a.name, api.ErrWidth, func(s *State, in *[]api.Value) {
				b.change(s, in)
				a.change(s, in)
			}})
		}
	}
	return l
}

// TestCircuits checks that the circuits of the other tests are valid and not all alike.
func TestCircuits(t *testing.T) {
	kinds := map[api.Kind]int{}
	memories := map[int]int{}
	for i, c := range append(circuits(300, 30), most(), row(api.MaxMems)) {
		if e := netlists.Check(c); e != api.OK {
			t.Errorf("circuit %d: error %d", i, e)
		}
		for _, n := range c.Nodes {
			kinds[n.Kind]++
		}
		memories[len(c.Mems)]++
	}
	for kind := range api.Mem + 1 {
		if kinds[kind] < 50 {
			t.Errorf("%d nodes of kind %d", kinds[kind], kind)
		}
	}
	for n := range 4 {
		if memories[n] < 50 {
			t.Errorf("%d circuits with %d memories", memories[n], n)
		}
	}
	for _, f := range flaws() {
		for _, c := range flawed(f.change) {
			if e := netlists.Check(c); e != f.want {
				t.Errorf("%s: netlists.Check returns %d, not %d", f.name, e, f.want)
			}
		}
	}
}
