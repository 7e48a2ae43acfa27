package rewrites_test

import (
	"math"
	"slices"
	"strconv"
	"strings"
	"testing"

	"probecard/api"
	"probecard/benches"
	"probecard/logic"
	"probecard/memories"
	"probecard/netlists"
)

// read returns the circuit of a text whose lines are separated by semicolons.
func read(s string) api.Circuit {
	c, f := benches.Read(strings.ReplaceAll(s, "; ", "\n"))
	if f.E != api.OK {
		panic("no circuit: " + s)
	}
	return c
}

// text returns the text of a circuit, with its lines separated by semicolons.
func text(c api.Circuit) string {
	s, _ := benches.Write(c)
	return strings.ReplaceAll(strings.TrimSuffix(s, "\n"), "\n", "; ")
}

// named returns the circuit with names for its nodes.
func named(c api.Circuit) api.Circuit {
	c.Names = nil
	for i := range c.Nodes {
		c.Names = append(c.Names, "n"+strconv.Itoa(i))
	}
	return c
}

// of returns a circuit with the given nodes and outputs.
func of(outs []int, nodes ...api.Node) api.Circuit {
	return named(api.Circuit{Nodes: nodes, Outs: outs})
}

// in returns a node that reads the given nets.
func in(kind api.Kind, nets ...int) api.Node { return api.Node{Kind: kind, In: nets} }

// values returns the values of a text.
func values(s string) []api.Value {
	l, e := logic.Parse(s)
	if e != api.OK {
		panic("no values: " + s)
	}
	return l
}

// count returns the number of nodes of a kind.
func count(c api.Circuit, kind api.Kind) int { return len(netlists.Of(c, kind)) }

// example returns the circuit of the chapter's example.
func example() api.Circuit {
	return read("INPUT(a); o = ONE(); g = AND(a, o); n = NOT(g); m = NOT(n); h = OR(m, a); k = OR(a, g); OUTPUT(h); OUTPUT(k)")
}

// plain returns a valid circuit without memories with nodes of all kinds but Mem, whose indices do not ascend with the levels. Loops lead through its Dff nodes, one of which reads itself, and one a Tri node.
// Its inputs are the nodes 1, 3 and 19, its states 2, 5 and 20.
func plain() api.Circuit {
	return named(api.Circuit{
		Nodes: []api.Node{
			0:  in(api.Or, 11, 3),
			1:  in(api.Input),
			2:  in(api.Dff, 17),
			3:  in(api.Input),
			4:  in(api.One),
			5:  in(api.Dff, 5),
			6:  in(api.Zero),
			7:  in(api.Tri, 1, 10),
			8:  in(api.Tri, 3, 2),
			9:  in(api.And, 1, 3, 4),
			10: in(api.Nand, 9, 2),
			11: in(api.Nor, 6, 16),
			12: in(api.Xor, 0, 10, 5),
			13: in(api.Xnor, 12, 1),
			14: in(api.Mux, 3, 13, 2),
			15: in(api.Not, 14),
			16: in(api.Buf, 1),
			17: in(api.Bus, 7, 8, 7),
			18: in(api.Buf, 17),
			19: in(api.Input),
			20: in(api.Dff, 7),
		},
		Outs: []int{17, 15, 17, 7, 19, 1, 13},
	})
}

// full returns the circuit plain with two memories, one of 4 words of 3 bits and one of 2 words of 1 bit, and with nodes that read them.
func full() api.Circuit {
	c := plain()
	c.Nodes = append(c.Nodes,
		api.Node{Kind: api.Mem},         // 21
		api.Node{Kind: api.Mem, Bit: 2}, // 22
		api.Node{Kind: api.Mem, Mem: 1}, // 23
		in(api.Nand, 21, 23),            // 24
		in(api.Tri, 22, 24),             // 25
		api.Node{Kind: api.Mem, Bit: 2}, // 26
	)
	c.Mems = []api.Memory{
		{Addr: []int{1, 17}, Data: []int{0, 24, 22}, Write: 7},
		{Addr: []int{23}, Data: []int{26}, Write: 18},
	}
	c.Outs = []int{17, 15, 21, 7, 25, 22, 19}
	return named(c)
}

// withMemory returns the circuit plain with a memory that no Mem node reads.
func withMemory() api.Circuit {
	c := plain()
	c.Mems = []api.Memory{{Addr: []int{1, 0}, Data: []int{5}, Write: 17}}
	return c
}

// random is a linear congruential generator, so that every run has the same circuits.
type random uint64

// below returns a number from 0 to n-1.
func (r *random) below(n int) int {
	*r = *r*6364136223846793005 + 1442695040888963407
	return int((uint64(*r) >> 33) % uint64(n))
}

// numbers returns count numbers from least to n-1.
func (r *random) numbers(count, least, n int) []int {
	l := make([]int, count)
	for i := range l {
		l[i] = least + r.below(n-least)
	}
	return l
}

// some returns count elements of l.
func (r *random) some(count int, l []int) []int {
	out := r.numbers(count, 0, len(l))
	for i := range out {
		out[i] = l[out[i]]
	}
	return out
}

// permutation returns the numbers from 0 to n-1 in some order.
func (r *random) permutation(n int) []int {
	l := make([]int, n)
	for i := range l {
		k := r.below(i + 1)
		l[i], l[k] = l[k], i
	}
	return l
}

// values returns count values below limit, most of them known.
func (r *random) values(count, limit int) []api.Value {
	l := make([]api.Value, count)
	for i := range l {
		l[i] = api.Value(r.below(2))
		if r.below(3) == 0 {
			l[i] = api.Value(r.below(limit))
		}
	}
	return l
}

// words returns count words of some values below limit.
func (r *random) words(count, width, limit int) [][]api.Value {
	l := make([][]api.Value, count)
	for i := range l {
		l[i] = r.values(width, limit)
	}
	return l
}

// state returns a state of a circuit.
func (r *random) state(c api.Circuit) memories.State {
	s := memories.State{Dff: r.values(count(c, api.Dff), 3)}
	for _, m := range c.Mems {
		s.Words = append(s.Words, r.words(1<<len(m.Addr), len(m.Data), 3))
		s.Read = append(s.Read, r.values(len(m.Data), 3))
	}
	return s
}

// pattern returns a pattern of a circuit with values of all sorts.
func (r *random) pattern(c api.Circuit) api.Pattern {
	return api.Pattern{In: r.values(count(c, api.Input), 4), State: r.values(count(c, api.Dff), 4)}
}

// node returns the node i of a circuit of n nodes. Unless it is a Dff, it reads some of the nodes before it; in half of the cases it is like another one or nearly so.
func (r *random) node(c api.Circuit, n int) api.Node {
	i := len(c.Nodes)
	if i > 0 && r.below(4) == 0 {
		return r.similar(c, i)
	}
	least := max(0, i-1-r.below(8))
	tris := netlists.Of(c, api.Tri)
	switch kind := api.Kind(r.below(22)); {
	case kind >= api.Mem && kind < api.Mem+3 && len(c.Mems) > 0:
		m := r.below(len(c.Mems))
		return api.Node{Kind: api.Mem, Mem: m, Bit: r.below(len(c.Mems[m].Data))}
	case kind == api.Dff:
		return in(api.Dff, r.below(n))
	case i == 0 || kind == api.Input:
		return in(api.Input)
	case kind == api.Zero || kind == api.One:
		return in(kind)
	case kind == api.Tri || kind >= api.Mem && kind < api.Mem+3:
		return in(api.Tri, r.numbers(2, least, i)...)
	case kind == api.Mux:
		return in(kind, r.numbers(3, least, i)...)
	case (kind == api.Bus || kind >= api.Mem+3) && len(tris) > 0:
		return in(api.Bus, r.some(1+r.below(3), tris)...)
	case kind >= api.And && kind <= api.Xnor:
		return in(kind, r.numbers(2+r.below(2), least, i)...)
	}
	return in(api.Buf+api.Kind(r.below(3)+1)/2, r.numbers(1, least, i)...)
}

// similar returns a node that is like one of the nodes before i, but that has sometimes its pins in another order, or another pin twice.
func (r *random) similar(c api.Circuit, i int) api.Node {
	like := c.Nodes[r.below(i)]
	n := api.Node{Kind: like.Kind, In: slices.Clone(like.In), Mem: like.Mem, Bit: like.Bit}
	switch k := len(n.In); {
	case k < 2 || n.Kind == api.Dff:
	case r.below(2) == 0:
		for x, y := range r.permutation(k) {
			n.In[x] = like.In[y]
		}
	case r.below(3) == 0:
		n.In[r.below(k)] = n.In[r.below(k)]
	}
	return n
}

// circuit returns a valid circuit of n nodes and up to most memories, in no particular order.
func (r *random) circuit(n, most int) api.Circuit {
	var c api.Circuit
	for range r.below(most + 1) {
		c.Mems = append(c.Mems, api.Memory{Addr: r.numbers(1+r.below(3), 0, n), Data: r.numbers(1+r.below(3), 0, n), Write: r.below(n)})
	}
	for range n {
		c.Nodes = append(c.Nodes, r.node(c, n))
	}
	c.Outs = r.numbers(r.below(5), max(0, n-1-r.below(n)), n)
	return renumbered(c, r.permutation(n))
}

// renumbered returns c with the index to[i] for each node i.
func renumbered(c api.Circuit, to []int) api.Circuit {
	nets := func(l []int) []int {
		var out []int
		for _, net := range l {
			out = append(out, to[net])
		}
		return out
	}
	d := api.Circuit{Nodes: make([]api.Node, len(c.Nodes)), Outs: nets(c.Outs)}
	for i, n := range c.Nodes {
		d.Nodes[to[i]] = api.Node{Kind: n.Kind, In: nets(n.In), Mem: n.Mem, Bit: n.Bit}
	}
	for _, m := range c.Mems {
		d.Mems = append(d.Mems, api.Memory{Addr: nets(m.Addr), Data: nets(m.Data), Write: to[m.Write]})
	}
	return named(d)
}

// broken returns a circuit with random kinds, pins, ports and outputs, few of which are valid.
func (r *random) broken() api.Circuit {
	n := r.below(9)
	c := api.Circuit{Nodes: make([]api.Node, n), Outs: r.numbers(r.below(4), -2, n+3)}
	for i := range c.Nodes {
		c.Nodes[i] = api.Node{Kind: api.Kind(11 + r.below(7)), In: r.numbers(r.below(4), -2, n+3), Mem: r.below(3) - 1, Bit: r.below(3) - 1}
		if r.below(4) == 0 {
			c.Nodes[i].Kind = api.Input
		}
	}
	for range r.below(3) {
		c.Mems = append(c.Mems, api.Memory{Addr: r.numbers(r.below(3), -2, n+2), Data: r.numbers(r.below(3), -2, n+2), Write: r.below(n+4) - 2})
	}
	if r.below(2) == 0 {
		c = named(c)
	}
	return c
}

// circuits returns ordinary circuits and random ones of up to nodes nodes and up to most memories, all of them valid.
func circuits(count, nodes, most int) []api.Circuit {
	l := []api.Circuit{
		{}, example(), plain(),
		of(nil, in(api.Input), in(api.Dff, 0)),
		of([]int{1}, in(api.Dff, 1), in(api.Not, 0)),
		of([]int{0, 1, 1}, in(api.Dff, 0), in(api.Dff, 0), in(api.Dff, 1)),
		of([]int{2, 0}, in(api.Input), in(api.One), in(api.Nor, 0, 1)),
		of(nil, in(api.Zero)),
	}
	if most > 0 {
		l = append(l, full(), withMemory())
	}
	r := random(count + nodes)
	for range count {
		l = append(l, r.circuit(1+r.below(nodes), most))
	}
	return l
}

// flaw is a change that makes the circuits plain and full invalid.
type flaw struct {
	name   string
	want   api.Errno
	change func(c *api.Circuit)
}

// flaws returns flaws with each of the errors of a circuit, and with two of them.
func flaws() []flaw {
	return []flaw{
		{"too many nodes", api.ErrLimit, func(c *api.Circuit) { c.Nodes = make([]api.Node, api.MaxNodes+1); *c = named(*c) }},
		{"too many memories", api.ErrLimit, func(c *api.Circuit) { c.Mems = make([]api.Memory, api.MaxMems+1) }},
		{"too many outputs", api.ErrLimit, func(c *api.Circuit) { c.Outs = make([]int, api.MaxNodes+1) }},
		{"a name too few", api.ErrWidth, func(c *api.Circuit) { c.Names = c.Names[1:] }},
		{"no kind", api.ErrKind, func(c *api.Circuit) { c.Nodes[4].Kind = 16 }},
		{"a Dff of two pins", api.ErrWidth, func(c *api.Circuit) { c.Nodes[2].In = []int{0, 1} }},
		{"a Dff of no pins", api.ErrWidth, func(c *api.Circuit) { c.Nodes[5].In = nil }},
		{"a pin behind the nodes", api.ErrArg, func(c *api.Circuit) { c.Nodes[10].In[1] = len(c.Nodes) }},
		{"a Dff that reads no node", api.ErrArg, func(c *api.Circuit) { c.Nodes[20].In[0] = -1 }},
		{"a bus of a gate", api.ErrKind, func(c *api.Circuit) { c.Nodes[17].In[1] = 16 }},
		{"a Mem node without memory", api.ErrArg, func(c *api.Circuit) { c.Nodes[1].Kind, c.Mems = api.Mem, nil }},
		{"a Buf with a bit", api.ErrArg, func(c *api.Circuit) { c.Nodes[16].Bit = 1 }},
		{"the same name", api.ErrName, func(c *api.Circuit) { c.Names[20] = c.Names[3] }},
		{"a memory without address", api.ErrWidth, func(c *api.Circuit) { c.Mems = append(c.Mems, api.Memory{Data: []int{0}}) }},
		{"a write enable behind the nodes", api.ErrArg, func(c *api.Circuit) {
			c.Mems = append(c.Mems, api.Memory{Addr: []int{0}, Data: []int{0}, Write: 29})
		}},
		{"an output behind the nodes", api.ErrArg, func(c *api.Circuit) { c.Outs[2] = math.MaxInt }},
		{"a loop", api.ErrLoop, func(c *api.Circuit) { c.Nodes[11].In[0] = 12 }},
		{"a Buf that reads itself", api.ErrLoop, func(c *api.Circuit) { c.Nodes[16].In[0] = 16 }},
		{"two Not nodes that read each other", api.ErrLoop, func(c *api.Circuit) { c.Nodes[15].In[0], c.Nodes[16] = 16, in(api.Not, 15) }},
		{"an output, and a loop", api.ErrArg, func(c *api.Circuit) { c.Outs[0], c.Nodes[16].In[0] = -1, 16 }},
		{"a name, and an output", api.ErrName, func(c *api.Circuit) { c.Names[0], c.Outs[0] = "a b", -1 }},
	}
}

// flawed returns the circuits plain and full after a change.
func flawed(change func(c *api.Circuit)) []api.Circuit {
	l := []api.Circuit{plain(), full()}
	for i := range l {
		change(&l[i])
	}
	return l
}

// TestCircuits checks that the circuits of the other tests are valid and not all alike, and that the flawed ones have their errors.
func TestCircuits(t *testing.T) {
	kinds, counts := map[api.Kind]int{}, map[string]int{}
	tally := func(name string, n int) { counts[name+" "+strconv.Itoa(min(n, 2))]++ }
	for i, c := range circuits(300, 20, 2) {
		if e := netlists.Check(c); e != api.OK {
			t.Errorf("circuit %d: error %d", i, e)
		}
		for _, n := range c.Nodes {
			kinds[n.Kind]++
		}
		tally("inputs", count(c, api.Input))
		tally("states", count(c, api.Dff))
		tally("memories", len(c.Mems))
		tally("outputs", len(c.Outs))
	}
	for kind := range api.Mem + 1 {
		if kinds[kind] < 50 {
			t.Errorf("%d nodes of kind %d", kinds[kind], kind)
		}
	}
	for _, what := range []string{"inputs", "states", "memories", "outputs"} {
		for n := range 3 {
			if name := what + " " + strconv.Itoa(n); counts[name] < 20 {
				t.Errorf("%d circuits with %s", counts[name], name)
			}
		}
	}
	for _, f := range flaws() {
		for _, c := range flawed(f.change) {
			if e := netlists.Check(c); e != f.want {
				t.Errorf("%s: netlists.Check returns %d, not %d", f.name, e, f.want)
			}
		}
	}
}
