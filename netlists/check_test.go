package netlists_test

import (
	"math"
	"slices"
	"strconv"
	"strings"
	"testing"

	"probecard/api"
	. "probecard/netlists"
)

// rank is the place of a flaw in the order in which the conditions of an invalid circuit apply.
type rank struct {
	condition int // from 1 to 7
	element   int // the node or memory
	part      int // the condition of the element
}

// before reports whether the flaw of rank a determines the error, not that of rank b.
func (a rank) before(b rank) bool {
	return slices.Compare([]int{a.condition, a.element, a.part}, []int{b.condition, b.element, b.part}) < 0
}

// flaw is a change that makes the circuit full invalid in one way. Two of them can be applied in either order.
type flaw struct {
	name   string
	rank   rank
	want   api.Errno
	change func(c *api.Circuit)
}

// set replaces element i of l, unless another flaw has removed it.
func set[T any](l []T, i int, x T) {
	if i < len(l) {
		l[i] = x
	}
}

// flaws returns all flaws.
func flaws() []flaw {
	return slices.Concat(limitFlaws(), nodeFlaws(), placeFlaws(), nameFlaws(), memoryFlaws(), netFlaws())
}

// limitFlaws returns circuits of one node, memory or output too many.
func limitFlaws() []flaw {
	return []flaw{
		{"too many nodes", rank{condition: 1}, api.ErrLimit, func(c *api.Circuit) {
			for len(c.Nodes) <= api.MaxNodes {
				c.Names = append(c.Names, "more"+strconv.Itoa(len(c.Nodes)))
				c.Nodes = append(c.Nodes, api.Node{})
			}
		}},
		{"too many memories", rank{condition: 1}, api.ErrLimit, func(c *api.Circuit) {
			for len(c.Mems) <= api.MaxMems {
				c.Mems = append(c.Mems, api.Memory{Addr: []int{0}, Data: []int{0}})
			}
		}},
		{"too many outputs", rank{condition: 1}, api.ErrLimit, func(c *api.Circuit) {
			c.Outs = append(c.Outs, make([]int, api.MaxNodes+1-len(c.Outs))...)
		}},
		{"a name too few", rank{condition: 2}, api.ErrWidth, func(c *api.Circuit) { c.Names = c.Names[:max(len(c.Names)-1, 0)] }},
		{"no names", rank{condition: 2}, api.ErrWidth, func(c *api.Circuit) { c.Names = nil }},
	}
}

// nodeFlaws returns nodes of a wrong kind, of wrong widths and with wrong pins.
func nodeFlaws() []flaw {
	kind := func(node int, kind api.Kind) flaw {
		return flaw{"kind of " + strconv.Itoa(node), rank{3, node, 0}, api.ErrKind, func(c *api.Circuit) { c.Nodes[node].Kind = kind }}
	}
	width := func(node, n int) flaw {
		return flaw{"width of " + strconv.Itoa(node), rank{3, node, 1}, api.ErrWidth, func(c *api.Circuit) { c.Nodes[node].In = make([]int, n) }}
	}
	pin := func(node, pin, net int) flaw {
		return flaw{"pin of " + strconv.Itoa(node), rank{3, node, 2}, api.ErrArg, func(c *api.Circuit) { set(c.Nodes[node].In, pin, net) }}
	}
	driver := func(node, pin, net int) flaw {
		return flaw{"driver of " + strconv.Itoa(node), rank{3, node, 3}, api.ErrKind, func(c *api.Circuit) { set(c.Nodes[node].In, pin, net) }}
	}
	return []flaw{
		kind(0, 16), kind(5, 255), kind(8, 17), kind(16, 16), kind(24, 128),
		width(5, 17), width(5, 0), width(6, 1), width(8, 2), width(16, 2), width(16, 4), width(21, 0), width(24, 1), width(24, 17),
		pin(2, 0, 26), pin(5, 0, -1), pin(11, 2, 26), pin(16, 1, math.MaxInt), pin(18, 0, math.MinInt), pin(20, 0, 26), pin(24, 1, -1),
		driver(5, 1, 16), driver(20, 2, 20), driver(20, 1, 2),
		{"another kind than Tri below two buses", rank{3, 5, 3}, api.ErrKind, func(c *api.Circuit) { c.Nodes[19].Kind = api.And }},
	}
}

// placeFlaws returns nodes with wrong fields Mem and Bit.
func placeFlaws() []flaw {
	memory := func(node, mem int) flaw {
		return flaw{"memory of " + strconv.Itoa(node), rank{3, node, 4}, api.ErrArg, func(c *api.Circuit) { c.Nodes[node].Mem = mem }}
	}
	bit := func(node, bit int) flaw {
		return flaw{"bit of " + strconv.Itoa(node), rank{3, node, 4}, api.ErrArg, func(c *api.Circuit) { c.Nodes[node].Bit = bit }}
	}
	return []flaw{
		memory(5, 1), memory(7, -1), memory(7, 4), memory(8, math.MaxInt), memory(22, 1), memory(16, -1),
		bit(5, 1), bit(7, 2), bit(8, -1), bit(8, 3), bit(16, math.MinInt), bit(20, 2), bit(24, 1),
		{"a bit that its memory has lost", rank{3, 7, 4}, api.ErrArg, func(c *api.Circuit) { c.Mems[0].Data = c.Mems[0].Data[:1] }},
		{"a memory without data that a node reads", rank{3, 8, 4}, api.ErrArg, func(c *api.Circuit) { c.Mems[1].Data = nil }},
	}
}

// nameFlaws returns names that are not valid, and equal ones.
func nameFlaws() []flaw {
	name := func(node int, s string) flaw {
		return flaw{"name " + strconv.Quote(s), rank{condition: 4}, api.ErrName, func(c *api.Circuit) { set(c.Names, node, s) }}
	}
	return []flaw{
		name(25, ""), name(0, "a b"), name(3, "x="), name(9, strings.Repeat("n", api.MaxName+1)),
		name(25, "n0"), name(7, "n6"), name(12, "n24"),
	}
}

// memoryFlaws returns memories of wrong widths and with wrong ports. Most of them have no Mem nodes.
func memoryFlaws() []flaw {
	width := func(mem int, change func(m *api.Memory)) flaw {
		return flaw{"width of memory " + strconv.Itoa(mem), rank{5, mem, 0}, api.ErrWidth, func(c *api.Circuit) { change(&c.Mems[mem]) }}
	}
	port := func(mem int, change func(m *api.Memory)) flaw {
		return flaw{"port of memory " + strconv.Itoa(mem), rank{5, mem, 1}, api.ErrArg, func(c *api.Circuit) { change(&c.Mems[mem]) }}
	}
	return []flaw{
		width(0, func(m *api.Memory) { m.Addr = nil }),
		width(1, func(m *api.Memory) { m.Addr = make([]int, api.MaxAddr+1) }),
		width(2, func(m *api.Memory) { m.Data = nil }),
		width(3, func(m *api.Memory) { m.Data = make([]int, api.MaxWord+1) }),
		port(0, func(m *api.Memory) { m.Write = 26 }),
		port(1, func(m *api.Memory) { m.Write = -1 }),
		port(1, func(m *api.Memory) { set(m.Addr, 0, 26) }),
		port(2, func(m *api.Memory) { set(m.Addr, 2, math.MinInt) }),
		port(2, func(m *api.Memory) { set(m.Data, 0, math.MaxInt) }),
		port(3, func(m *api.Memory) { set(m.Data, 1, -1) }),
	}
}

// netFlaws returns wrong outputs, and loops.
func netFlaws() []flaw {
	out := func(i, net int) flaw {
		return flaw{"output " + strconv.Itoa(i), rank{condition: 6}, api.ErrArg, func(c *api.Circuit) { c.Outs[i] = net }}
	}
	loop := func(node, pin, net int) flaw {
		return flaw{"loop through " + strconv.Itoa(node), rank{condition: 7}, api.ErrLoop, func(c *api.Circuit) { c.Nodes[node].In[pin] = net }}
	}
	return []flaw{
		out(0, 26), out(4, -1), out(2, math.MaxInt), out(1, math.MinInt),
		loop(25, 0, 25), loop(23, 0, 24), loop(1, 0, 20), loop(13, 1, 15),
	}
}

// least and most hold the numbers of inputs that each kind allows.
var (
	least = [16]int{0, 0, 0, 1, 1, 2, 2, 2, 2, 2, 2, 3, 2, 1, 1, 0}
	most  = [16]int{0, 0, 0, 1, 1, 16, 16, 16, 16, 16, 16, 3, 2, 16, 1, 0}
)

// expectError checks that the functions that check a circuit return an error and nothing else.
func expectError(t *testing.T, name string, c api.Circuit, want api.Errno) {
	t.Helper()
	if e := Check(c); e != want {
		t.Errorf("%s: Check returns error %d, not %d", name, e, want)
	}
	levels, e := Levels(c)
	if e != want || want != api.OK && len(levels) > 0 {
		t.Errorf("%s: Levels returns error %d, not %d, and %d levels", name, e, want, len(levels))
	}
	order, e := Order(c)
	if e != want || want != api.OK && len(order) > 0 {
		t.Errorf("%s: Order returns error %d, not %d, and %d nodes", name, e, want, len(order))
	}
}

// P3.2

func TestCheckValid(t *testing.T) {
	expectError(t, "full", full(), api.OK)
	expectError(t, "example", example(), api.OK)
	expectError(t, "no nodes", api.Circuit{}, api.OK)
	expectError(t, "no nodes, empty slices", api.Circuit{Nodes: []api.Node{}, Names: []string{}, Mems: []api.Memory{}, Outs: []int{}}, api.OK)
	expectError(t, "empty pins", api.Circuit{Nodes: []api.Node{{In: []int{}}}, Names: []string{"a"}}, api.OK)
}

func TestCheckOneFlaw(t *testing.T) {
	for _, f := range flaws() {
		c := full()
		f.change(&c)
		expectError(t, f.name, c, f.want)
	}
}

// TestCheckTwoFlaws applies each pair of flaws in both orders; the error is that of the flaw whose condition comes first.
func TestCheckTwoFlaws(t *testing.T) {
	all := flaws()
	for i, f := range all {
		for k, g := range all {
			if i == k {
				continue
			}
			c := full()
			f.change(&c)
			g.change(&c)
			want := f.want
			if g.rank.before(f.rank) {
				want = g.want
			}
			if e := Check(c); e != want {
				t.Errorf("%s, then %s: error %d, not %d", f.name, g.name, e, want)
			}
		}
	}
}

func TestCheckExamples(t *testing.T) {
	for _, x := range []struct {
		change func(c *api.Circuit)
		want   api.Errno
	}{
		{func(c *api.Circuit) { c.Nodes[2].In[0] = 3 }, api.ErrLoop},
		{func(c *api.Circuit) { c.Nodes[2].Kind = api.Bus }, api.ErrKind},
		{func(c *api.Circuit) { c.Names[2] = "g" }, api.ErrName},
	} {
		c := example()
		x.change(&c)
		expectError(t, "example", c, x.want)
	}
}

// TestCheckWidths has all kinds of a byte with all numbers of inputs up to more than MaxFanin.
func TestCheckWidths(t *testing.T) {
	for kind := range 256 {
		for n := range 20 {
			c, want := fanned(api.Kind(kind), n), api.OK
			switch {
			case kind > 15:
				want = api.ErrKind
			case n < least[kind] || n > most[kind]:
				want = api.ErrWidth
			}
			expectError(t, "kind "+strconv.Itoa(kind)+" with "+strconv.Itoa(n)+" inputs", c, want)
		}
	}
}

// TestCheckPins puts a wrong index on each pin of each kind.
func TestCheckPins(t *testing.T) {
	for kind := range api.Mem {
		for n := least[kind]; n <= most[kind]; n++ {
			for pin := range n {
				for _, net := range wrong(3) {
					c := fanned(kind, n)
					c.Nodes[2].In[pin] = net
					expectError(t, "kind "+strconv.Itoa(int(kind))+", pin "+strconv.Itoa(pin), c, api.ErrArg)
				}
			}
		}
	}
}

// TestCheckDrivers has a Bus that reads a node of each kind, on each of its pins.
func TestCheckDrivers(t *testing.T) {
	for kind := range api.Mem + 1 {
		for pin := range 3 {
			c := fanned(kind, least[kind])
			c.Nodes = append(c.Nodes, api.Node{Kind: api.Bus, In: []int{1, 1, 1}})
			c.Nodes[3].In[pin] = 2
			want := api.ErrKind
			if kind == api.Tri {
				want = api.OK
			}
			expectError(t, "driver of kind "+strconv.Itoa(int(kind)), named(c), want)
		}
	}
	c := named(api.Circuit{Nodes: []api.Node{{Kind: api.Bus, In: []int{2, 2}}, {}, {Kind: api.Tri, In: []int{1, 1}}}})
	expectError(t, "a Bus above its driver", c, api.OK)
	c.Nodes[0].In[1] = 0
	expectError(t, "a Bus that reads itself", c, api.ErrKind)
	c.Nodes[0].In[0] = 3
	expectError(t, "a Bus that reads itself and no net", c, api.ErrArg)
	c.Nodes[0].In = []int{2, 2}
	c.Nodes[2].In[1] = 0
	expectError(t, "a Bus that its driver reads", c, api.ErrLoop)
}

// TestCheckTriReaders has nodes of all kinds that read the net of a Tri, and one that reads a Bus.
func TestCheckTriReaders(t *testing.T) {
	for kind, n := range map[api.Kind]int{api.Buf: 1, api.Not: 1, api.And: 2, api.Nor: 3, api.Xor: 2, api.Mux: 3, api.Tri: 2, api.Bus: 1, api.Dff: 1} {
		c := fanned(kind, n)
		c.Outs = []int{1, 1, 2}
		c.Mems[0] = api.Memory{Addr: []int{1}, Data: []int{1, 1}, Write: 1}
		expectError(t, "kind "+strconv.Itoa(int(kind)), c, api.OK)
	}
}

// TestCheckPlaces has all values of the fields Mem and Bit around the valid ones.
func TestCheckPlaces(t *testing.T) {
	widths := []int{1, 3, 2, 32}
	for kind := range api.Mem + 1 {
		for mem := -2; mem < 6; mem++ {
			for bit := -2; bit < 35; bit++ {
				c := fanned(kind, 0)
				c.Nodes[2] = api.Node{Kind: kind, In: fanned(kind, least[kind]).Nodes[2].In, Mem: mem, Bit: bit}
				c.Mems = nil
				for _, w := range widths {
					c.Mems = append(c.Mems, api.Memory{Addr: []int{0}, Data: make([]int, w)})
				}
				ok := mem == 0 && bit == 0
				if kind == api.Mem {
					ok = mem >= 0 && mem < 4 && bit >= 0 && bit < widths[mem]
				}
				if e := Check(c); (e == api.OK) != ok || !ok && e != api.ErrArg {
					t.Errorf("kind %d, Mem %d, Bit %d: error %d", kind, mem, bit, e)
				}
			}
		}
	}
}

// TestCheckNoMemories has Mem nodes without a memory, and fields with extreme values.
func TestCheckNoMemories(t *testing.T) {
	c := named(api.Circuit{Nodes: []api.Node{{Kind: api.Mem}}})
	expectError(t, "no memories", c, api.ErrArg)
	c.Mems = []api.Memory{{Addr: []int{0}, Data: []int{0}}}
	expectError(t, "one memory", c, api.OK)
	for _, i := range wrong(1) {
		c.Nodes[0].Mem, c.Nodes[0].Bit = i, 0
		expectError(t, "Mem "+strconv.Itoa(i), c, api.ErrArg)
		c.Nodes[0].Mem, c.Nodes[0].Bit = 0, i
		expectError(t, "Bit "+strconv.Itoa(i), c, api.ErrArg)
	}
}

// TestCheckWideWord has a Mem node whose bit is one of Data, which is too wide: the node is valid, the memory is not.
func TestCheckWideWord(t *testing.T) {
	c := named(api.Circuit{Nodes: []api.Node{{Kind: api.Mem, Bit: 40}}, Mems: []api.Memory{{Addr: []int{0}, Data: make([]int, 41)}}})
	expectError(t, "bit 40 of 41", c, api.ErrWidth)
	c.Nodes[0].Bit = 41
	expectError(t, "bit 41 of 41", c, api.ErrArg)
}

func TestCheckMemoryWidths(t *testing.T) {
	for addr := range 12 {
		for data := range 40 {
			c := named(api.Circuit{Nodes: make([]api.Node, 1), Mems: []api.Memory{{Addr: make([]int, addr), Data: make([]int, data)}}})
			want := api.ErrWidth
			if addr >= 1 && addr <= 8 && data >= 1 && data <= 32 {
				want = api.OK
			}
			if e := Check(c); e != want {
				t.Errorf("memory of %d and %d bits: error %d, not %d", addr, data, e, want)
			}
		}
	}
}

// TestCheckPorts puts a wrong index on each port, also where the width of another port is wrong, which comes first.
func TestCheckPorts(t *testing.T) {
	memory := func() api.Circuit {
		return named(api.Circuit{Nodes: make([]api.Node, 3), Mems: []api.Memory{{Addr: make([]int, 8), Data: make([]int, 32), Write: 2}}})
	}
	expectError(t, "greatest memory", memory(), api.OK)
	for port := range 41 {
		for _, net := range wrong(3) {
			c := memory()
			m := &c.Mems[0]
			switch {
			case port < 8:
				m.Addr[port] = net
			case port < 40:
				m.Data[port-8] = net
			default:
				m.Write = net
			}
			expectError(t, "port "+strconv.Itoa(port), c, api.ErrArg)
			c.Mems = append(c.Mems, api.Memory{})
			expectError(t, "port "+strconv.Itoa(port)+" before another memory", c, api.ErrArg)
			if port < 40 {
				c.Mems[0].Data = append(c.Mems[0].Data, 0)
				expectError(t, "port "+strconv.Itoa(port)+" of a wide memory", c, api.ErrWidth)
			}
		}
	}
}

func TestCheckOuts(t *testing.T) {
	for i := range 4 {
		for _, net := range wrong(2) {
			c := named(api.Circuit{Nodes: make([]api.Node, 2), Outs: []int{0, 1, 1, 0}})
			expectError(t, "outputs twice", c, api.OK)
			c.Outs[i] = net
			expectError(t, "output "+strconv.Itoa(i), c, api.ErrArg)
		}
	}
	expectError(t, "an output without nodes", api.Circuit{Outs: []int{0}}, api.ErrArg)
	expectError(t, "a memory without nodes", api.Circuit{Mems: []api.Memory{{Addr: []int{0}, Data: []int{0}}}}, api.ErrArg)
}

func TestCheckLimits(t *testing.T) {
	c := named(api.Circuit{Nodes: make([]api.Node, api.MaxNodes), Outs: make([]int, api.MaxNodes)})
	for range api.MaxMems {
		c.Mems = append(c.Mems, api.Memory{Addr: make([]int, api.MaxAddr), Data: make([]int, api.MaxWord), Write: api.MaxNodes - 1})
	}
	c.Nodes[5] = api.Node{Kind: api.Mem, Mem: api.MaxMems - 1, Bit: api.MaxWord - 1}
	c.Outs[7] = api.MaxNodes - 1
	c.Names[8] = strings.Repeat("x", api.MaxName)
	expectError(t, "at the limits", c, api.OK)

	more := c
	more.Outs = append(slices.Clone(c.Outs), 0)
	expectError(t, "an output more", more, api.ErrLimit)
	more = c
	more.Mems = append(slices.Clone(c.Mems), c.Mems[0])
	expectError(t, "a memory more", more, api.ErrLimit)
	more = c
	more.Nodes = append(slices.Clone(c.Nodes), api.Node{})
	expectError(t, "a node more", more, api.ErrLimit)
	more.Names = append(slices.Clone(c.Names), "more")
	expectError(t, "a node and a name more", more, api.ErrLimit)
	more.Nodes = c.Nodes
	expectError(t, "a name more", more, api.ErrWidth)
}

// TestCheckNames has each byte and lengths around the limit in the name of each node.
func TestCheckNames(t *testing.T) {
	names := []string{"", " ", strings.Repeat("x", 32), strings.Repeat("x", 33), strings.Repeat("x", 10000), "é"}
	for b := range 256 {
		names = append(names, "x"+string([]byte{byte(b)}))
	}
	for i := range 3 {
		for _, s := range names {
			c := named(api.Circuit{Nodes: make([]api.Node, 3)})
			c.Names[i] = s
			want := api.OK
			if !IsName(s) {
				want = api.ErrName
			}
			expectError(t, strconv.Quote(s), c, want)
		}
	}
}

// TestCheckEqualNames has each pair of nodes with the same name, and names that differ only in case or length.
func TestCheckEqualNames(t *testing.T) {
	c := api.Circuit{Nodes: make([]api.Node, 6), Names: []string{"a", "A", "aa", "a.", "~a", "aaa"}}
	expectError(t, "similar names", c, api.OK)
	for i := range c.Names {
		for k := range i {
			d := deep(c)
			d.Names[i] = d.Names[k]
			expectError(t, "equal names", d, api.ErrName)
		}
	}
}

// TestCheckSelfLoops has a node of each combinational kind that reads itself, on each pin.
func TestCheckSelfLoops(t *testing.T) {
	for kind := api.Buf; kind <= api.Tri; kind++ {
		for n := least[kind]; n <= most[kind]; n++ {
			for pin := range n {
				c := fanned(kind, n)
				c.Nodes[2].In[pin] = 2
				expectError(t, "loop of kind "+strconv.Itoa(int(kind)), c, api.ErrLoop)
			}
		}
	}
}

// ring returns n nodes of a kind in a ring, each reading another one step further; a node of kind Tri or And reads it twice.
func ring(kind api.Kind, n, step int) api.Circuit {
	c := api.Circuit{Nodes: make([]api.Node, n)}
	for i := range c.Nodes {
		c.Nodes[i] = api.Node{Kind: kind, In: slices.Repeat([]int{(i + step) % n}, least[kind])}
	}
	return named(c)
}

// TestCheckRings has rings in both directions, broken at each place by an Input, a Dff or a Mem, or by none.
func TestCheckRings(t *testing.T) {
	for _, kind := range []api.Kind{api.Buf, api.And, api.Mux, api.Tri} {
		for n := 1; n < 8; n++ {
			for _, step := range []int{1, n - 1} {
				expectError(t, "ring", ring(kind, n, step), api.ErrLoop)
				for i := range n {
					for _, stop := range []api.Node{{Kind: api.Input}, {Kind: api.Zero}, {Kind: api.Dff, In: []int{(i + step) % n}}, {Kind: api.Mem}} {
						c := ring(kind, n, step)
						c.Nodes[i] = stop
						c.Mems = []api.Memory{{Addr: []int{(i + step) % n}, Data: []int{(i + step) % n}, Write: (i + step) % n}}
						expectError(t, "broken ring", c, api.OK)
					}
				}
			}
		}
	}
	expectError(t, "Dff nodes in a ring", ring(api.Dff, 5, 1), api.OK)
}

// TestCheckLargeRings has the longest ring, and one that only a last pin closes.
func TestCheckLargeRings(t *testing.T) {
	for _, step := range []int{1, api.MaxNodes - 1} {
		c := ring(api.Not, api.MaxNodes, step)
		expectError(t, "longest ring", c, api.ErrLoop)
		c.Nodes[api.MaxNodes/3] = api.Node{}
		expectError(t, "longest ring, broken", c, api.OK)
	}
	for _, step := range []int{-1, 1} {
		c := chain(api.MaxNodes, step)
		expectError(t, "longest chain", c, api.OK)
		c.Nodes[api.MaxNodes/2].In[0] = api.MaxNodes / 2
		expectError(t, "longest chain with a loop in the middle", c, api.ErrLoop)
	}
}

// TestCheckHiddenLoop has a loop that no output depends on, besides a part without loops.
func TestCheckHiddenLoop(t *testing.T) {
	c := example()
	c.Nodes = append(c.Nodes, api.Node{Kind: api.Or, In: []int{0, 5}}, api.Node{Kind: api.Not, In: []int{4}})
	c = named(c)
	expectError(t, "hidden loop", c, api.ErrLoop)
	c.Nodes[4].In[1] = 3
	expectError(t, "no loop", c, api.OK)
}

// errorOf determines the error of a small circuit as the chapter words it.
func errorOf(c api.Circuit) api.Errno {
	is := func(nets ...int) bool {
		return len(filter(len(nets), func(i int) bool { return nets[i] < 0 || nets[i] >= len(c.Nodes) })) == 0
	}
	if len(c.Nodes) != len(c.Names) {
		return api.ErrWidth
	}
	for _, n := range c.Nodes {
		if n.Kind > 15 {
			return api.ErrKind
		}
		if len(n.In) < least[n.Kind] || len(n.In) > most[n.Kind] {
			return api.ErrWidth
		}
		if !is(n.In...) {
			return api.ErrArg
		}
		for _, net := range n.In {
			if n.Kind == api.Bus && c.Nodes[net].Kind != api.Tri {
				return api.ErrKind
			}
		}
		if n.Kind != api.Mem && (n.Mem != 0 || n.Bit != 0) {
			return api.ErrArg
		}
		if n.Kind == api.Mem && (n.Mem < 0 || n.Mem >= len(c.Mems) || n.Bit < 0 || n.Bit >= len(c.Mems[n.Mem].Data)) {
			return api.ErrArg
		}
	}
	for i, s := range c.Names {
		if !IsName(s) || slices.Contains(c.Names[:i], s) {
			return api.ErrName
		}
	}
	for _, m := range c.Mems {
		if len(m.Addr)*len(m.Data) == 0 || len(m.Addr) > 8 || len(m.Data) > 32 {
			return api.ErrWidth
		}
		if !is(m.Write) || !is(m.Addr...) || !is(m.Data...) {
			return api.ErrArg
		}
	}
	if !is(c.Outs...) {
		return api.ErrArg
	}
	if loops(c) {
		return api.ErrLoop
	}
	return api.OK
}

// loops reports whether a net of a small circuit depends on itself, by the closure of the relation.
func loops(c api.Circuit) bool {
	depends := make([][]bool, len(c.Nodes))
	for i, n := range c.Nodes {
		depends[i] = make([]bool, len(c.Nodes))
		for _, net := range n.In {
			depends[i][net] = n.Kind >= api.Zero && n.Kind <= api.Bus
		}
	}
	for k := range depends {
		for i := range depends {
			for j := range depends {
				depends[i][j] = depends[i][j] || depends[i][k] && depends[k][j]
			}
		}
	}
	for i := range depends {
		if depends[i][i] {
			return true
		}
	}
	return false
}

// TestCheckRandom compares Check with the chapter's words for circuits with several flaws.
func TestCheckRandom(t *testing.T) {
	seen := map[api.Errno]int{}
	for seed := range random(5000) {
		c := broken(&seed)
		want := errorOf(c)
		seen[want]++
		if e := Check(c); e != want {
			t.Errorf("circuit %+v: error %d, not %d", c, e, want)
		}
	}
	for _, e := range []api.Errno{api.OK, api.ErrArg, api.ErrName, api.ErrLoop, api.ErrKind, api.ErrWidth} {
		if seen[e] < 20 {
			t.Errorf("only %d circuits with error %d", seen[e], e)
		}
	}
}
