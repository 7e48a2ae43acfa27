package benches_test

import (
	"math"
	"slices"
	"strconv"
	"strings"
	"testing"

	"probecard/api"
	. "probecard/benches"
	"probecard/netlists"
)

// expectText checks that a circuit has a text.
func expectText(t *testing.T, c api.Circuit, want string) {
	t.Helper()
	if s, e := Write(c); s != want || e != api.OK {
		t.Errorf("Write returns error %d and %q, not %q", e, s, want)
	}
}

// expectError checks that Write returns an error and nothing else.
func expectError(t *testing.T, name string, c api.Circuit, want api.Errno) {
	t.Helper()
	if s, e := Write(c); s != "" || e != want {
		t.Errorf("%s: Write returns error %d, not %d, and %d bytes", name, e, want, len(s))
	}
}

// P4.2

func TestWriteExamples(t *testing.T) {
	expectText(t, example(), sheet)
	c := example()
	c.Nodes = append(c.Nodes, api.Node{Kind: api.Mem, Mem: 0, Bit: 1})
	c.Names = append(c.Names, "m")
	c.Mems = []api.Memory{{Addr: []int{1}, Data: []int{2, 3}, Write: 0}}
	expectText(t, c, "INPUT(a)\nq = DFF(g)\nn = NOT(a)\ng = AND(q, n)\nm = MEM(0, 1)\nOUTPUT(g)\nMEMORY(a, 1, q, n, g)\n")
	expectText(t, full(), plan)
}

func TestWriteEmpty(t *testing.T) {
	expectText(t, api.Circuit{}, "")
	expectText(t, api.Circuit{Nodes: []api.Node{}, Names: []string{}, Mems: []api.Memory{}, Outs: []int{}}, "")
	c := api.Circuit{Nodes: []api.Node{{In: []int{}}, {Kind: api.One, In: []int{}}}, Names: []string{"a", "b"}, Mems: []api.Memory{}, Outs: []int{}}
	expectText(t, c, "INPUT(a)\nb = ONE()\n")
}

// TestWriteKinds has each kind with each number of inputs that it allows.
func TestWriteKinds(t *testing.T) {
	for i, word := range kindWords {
		kind := api.Zero + api.Kind(i)
		least, most := widths(kind)
		for n := least; n <= most; n++ {
			c := api.Circuit{
				Nodes: []api.Node{{}, {Kind: kind, In: slices.Repeat([]int{2}, n)}, {Kind: api.Tri, In: []int{0, 0}}},
				Names: []string{"a", "x", "t"},
			}
			pins := strings.TrimSuffix(strings.Repeat("t, ", n), ", ")
			expectText(t, c, "INPUT(a)\nx = "+word+"("+pins+")\nt = TRI(a, a)\n")
		}
	}
}

// TestWriteCounts has the Mem nodes and memories of all fields and widths.
func TestWriteCounts(t *testing.T) {
	for addr := 1; addr <= api.MaxAddr; addr++ {
		for data := 1; data <= api.MaxWord; data++ {
			c := api.Circuit{
				Nodes: []api.Node{{}, {Kind: api.Mem, Mem: 15, Bit: data - 1}, {Kind: api.Mem}},
				Names: []string{"a", "b", "c"},
				Mems:  slices.Repeat([]api.Memory{{Addr: slices.Repeat([]int{0}, addr), Data: slices.Repeat([]int{2}, data), Write: 1}}, 16),
			}
			memory := "MEMORY(b, " + strconv.Itoa(addr) + strings.Repeat(", a", addr) + strings.Repeat(", c", data) + ")\n"
			expectText(t, c, "INPUT(a)\nb = MEM(15, "+strconv.Itoa(data-1)+")\nc = MEM(0, 0)\n"+strings.Repeat(memory, 16))
		}
	}
}

// TestWriteLayout compares the texts of random circuits with their lines, and looks for the bytes 32 around the tokens.
func TestWriteLayout(t *testing.T) {
	r := random(1)
	for range 2000 {
		c := r.circuit(1 + r.below(30))
		expectText(t, c, strings.Join(layout(c), ""))
		s, _ := Write(c)
		bare := strings.ReplaceAll(strings.ReplaceAll(s, " = ", "="), ", ", ",")
		if strings.ContainsAny(bare, " \t\r#") || strings.Count(s, " ") != 2*strings.Count(s, "=")+strings.Count(s, ",") {
			t.Errorf("bytes between the tokens of %q", s)
		}
		if lines := len(c.Nodes) + len(c.Outs) + len(c.Mems); strings.Count(s, "\n") != lines || !strings.HasSuffix(s, "\n") {
			t.Errorf("%d lines, not %d: %q", strings.Count(s, "\n"), lines, s)
		}
	}
}

// TestWriteInvalid has circuits that Check refuses, each with an error of its own.
func TestWriteInvalid(t *testing.T) {
	for _, x := range []struct {
		name   string
		want   api.Errno
		change func(c *api.Circuit)
	}{
		{"too many outputs", api.ErrLimit, func(c *api.Circuit) { c.Outs = make([]int, api.MaxNodes+1) }},
		{"too many memories", api.ErrLimit, func(c *api.Circuit) {
			c.Mems = slices.Repeat([]api.Memory{{Addr: []int{0}, Data: []int{0}}}, api.MaxMems+1)
		}},
		{"too many nodes", api.ErrLimit, func(c *api.Circuit) { *c = nodes(api.MaxNodes + 1) }},
		{"a name too few", api.ErrWidth, func(c *api.Circuit) { c.Names = c.Names[1:] }},
		{"no names", api.ErrWidth, func(c *api.Circuit) { c.Names = nil }},
		{"a name too much", api.ErrWidth, func(c *api.Circuit) { c.Names = append(c.Names, "more") }},
		{"no kind", api.ErrKind, func(c *api.Circuit) { c.Nodes[20].Kind = 16 }},
		{"the kind 255", api.ErrKind, func(c *api.Circuit) { c.Nodes[0].Kind = 255 }},
		{"two inputs of a Buf", api.ErrWidth, func(c *api.Circuit) { c.Nodes[1].In = []int{0, 0} }},
		{"an Input with a pin", api.ErrWidth, func(c *api.Circuit) { c.Nodes[0].In = []int{0} }},
		{"a pin above the nodes", api.ErrArg, func(c *api.Circuit) { c.Nodes[10].In[0] = 21 }},
		{"a pin below 0", api.ErrArg, func(c *api.Circuit) { c.Nodes[10].In[1] = -1 }},
		{"a driver that is no Tri", api.ErrKind, func(c *api.Circuit) { c.Nodes[5].In[0] = 0 }},
		{"a great bit", api.ErrArg, func(c *api.Circuit) { c.Nodes[7].Bit = math.MaxInt }},
		{"a bit of an And", api.ErrArg, func(c *api.Circuit) { c.Nodes[10].Bit = 1 }},
		{"an empty name", api.ErrName, func(c *api.Circuit) { c.Names[3] = "" }},
		{"a name with a comma", api.ErrName, func(c *api.Circuit) { c.Names[3] = "a,b" }},
		{"a long name", api.ErrName, func(c *api.Circuit) { c.Names[3] = long(33) }},
		{"a name twice", api.ErrName, func(c *api.Circuit) { c.Names[3] = "a" }},
		{"no address", api.ErrWidth, func(c *api.Circuit) { c.Mems[2].Addr = nil }},
		{"a write port above the nodes", api.ErrArg, func(c *api.Circuit) { c.Mems[2].Write = 21 }},
		{"an output below 0", api.ErrArg, func(c *api.Circuit) { c.Outs[0] = math.MinInt }},
		{"a loop", api.ErrLoop, func(c *api.Circuit) { c.Nodes[1].In[0] = 16 }},
	} {
		c := full()
		x.change(&c)
		expectError(t, x.name, c, x.want)
	}
}

// sized returns a valid circuit whose text has n bytes, which are more than 655360: Input nodes with names of at most 32 bytes, and outputs.
func sized(n int) api.Circuit {
	const nodeLine, outLine = 40, 41 // the greatest lengths of lines
	c := api.Circuit{Nodes: make([]api.Node, api.MaxNodes)}
	outs := (n - nodeLine*api.MaxNodes + outLine - 1) / outLine
	surplus := nodeLine*api.MaxNodes + outLine*outs - n
	for i := range c.Nodes {
		name := strconv.Itoa(100000 + i)
		shorter := min(surplus, 20)
		if i == api.MaxNodes-1 {
			shorter = 0 // the node of the outputs
		}
		surplus -= shorter
		c.Names = append(c.Names, name+long(api.MaxName-len(name)-shorter))
	}
	c.Outs = slices.Repeat([]int{api.MaxNodes - 1}, outs)
	return c
}

// TestWriteLimit has circuits whose texts have MaxText bytes, and more.
func TestWriteLimit(t *testing.T) {
	for n := api.MaxText - 3; n <= api.MaxText+3; n++ {
		c := sized(n)
		if size := len(strings.Join(layout(c), "")); size != n {
			t.Fatalf("sized(%d) has %d bytes", n, size)
		}
		s, e := Write(c)
		switch {
		case n > api.MaxText:
			expectError(t, "a text of "+strconv.Itoa(n)+" bytes", c, api.ErrLimit)
		case e != api.OK || len(s) != n:
			t.Errorf("a text of %d bytes: error %d and %d bytes", n, e, len(s))
		}
	}
}

// TestWriteGreatest has the longest text of all, and the error of the circuit before that of its text.
func TestWriteGreatest(t *testing.T) {
	c := api.Circuit{Nodes: make([]api.Node, api.MaxNodes), Outs: make([]int, api.MaxNodes)}
	for i := range c.Nodes {
		if i > 0 {
			c.Nodes[i] = api.Node{Kind: api.Xnor, In: make([]int, api.MaxFanin)}
		}
		c.Names = append(c.Names, strconv.Itoa(100000+i)+long(26))
	}
	c.Mems = slices.Repeat([]api.Memory{{Addr: make([]int, api.MaxAddr), Data: make([]int, api.MaxWord)}}, api.MaxMems)
	expectError(t, "the longest text", c, api.ErrLimit)
	c.Nodes[1].In[0] = 1
	expectError(t, "the longest text with a loop", c, api.ErrLoop)
	c.Names[0] = ""
	expectError(t, "the longest text without a name", c, api.ErrName)
}

// TestWriteArgument checks that Write changes no circuit.
func TestWriteArgument(t *testing.T) {
	r := random(2)
	for range 200 {
		c := r.circuit(1 + r.below(20))
		before := netlists.Copy(c)
		Write(c)
		if !equal(c, before) {
			t.Errorf("Write changes %+v to %+v", before, c)
		}
	}
}
