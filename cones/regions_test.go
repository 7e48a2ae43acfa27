package cones_test

import (
	"slices"
	"strconv"
	"testing"

	"probecard/api"
	. "probecard/cones"
)

// P5.4

// expectRegions checks the stem of each node, and the list of the stems.
func expectRegions(t *testing.T, name string, c api.Circuit, want ...int) {
	t.Helper()
	regions, e := Regions(c)
	expectList(t, name+": Regions", regions, e, want...)
	all := slices.Clone(want)
	slices.Sort(all)
	stems, e := Stems(c)
	expectList(t, name+": Stems", stems, e, slices.Compact(all)...)
}

func TestRegionsExamples(t *testing.T) {
	expectRegions(t, "example", example(), 0, 1, 4, 4, 4)
	expectRegions(t, "full", full(), 0, 9, 2, 15, 12, 25, 6, 7, 15, 9, 10, 12, 12, 15, 15, 15, 16, 17, 18, 19, 20, 21, 17, 17, 17, 25)
	expectRegions(t, "one node", chain(1, 1), 0)
}

// TestRegionsReaders has a node with different readers: it is no stem only if one pin of a combinational node reads it, and nothing else.
func TestRegionsReaders(t *testing.T) {
	for _, x := range []struct {
		name   string
		stem   int
		change func(c *api.Circuit)
	}{
		{"no reader", 1, func(c *api.Circuit) {}},
		{"one reader", 2, func(c *api.Circuit) { c.Nodes[2].In[0] = 1 }},
		{"one reader on another pin", 2, func(c *api.Circuit) { c.Nodes[2].In[2] = 1 }},
		{"one reader on two pins", 1, func(c *api.Circuit) { c.Nodes[2].In[0], c.Nodes[2].In[2] = 1, 1 }},
		{"one reader on three pins", 1, func(c *api.Circuit) { c.Nodes[2].In = []int{1, 1, 1} }},
		{"two readers", 1, func(c *api.Circuit) { c.Nodes[2].In[1], c.Nodes[3].In[0] = 1, 1 }},
		{"a Dff", 1, func(c *api.Circuit) { c.Nodes[4].In[0] = 1 }},
		{"a reader and a Dff", 1, func(c *api.Circuit) { c.Nodes[2].In[0], c.Nodes[4].In[0] = 1, 1 }},
		{"an output", 1, func(c *api.Circuit) { c.Outs[0] = 1 }},
		{"a reader and an output", 1, func(c *api.Circuit) { c.Nodes[2].In[0], c.Outs[0] = 1, 1 }},
		{"an address", 1, func(c *api.Circuit) { c.Mems[0].Addr[1] = 1 }},
		{"a reader and an address", 1, func(c *api.Circuit) { c.Nodes[2].In[0], c.Mems[0].Addr[1] = 1, 1 }},
		{"data", 1, func(c *api.Circuit) { c.Mems[0].Data[1] = 1 }},
		{"a reader and data", 1, func(c *api.Circuit) { c.Nodes[2].In[0], c.Mems[0].Data[1] = 1, 1 }},
		{"write", 1, func(c *api.Circuit) { c.Mems[0].Write = 1 }},
		{"a reader and write", 1, func(c *api.Circuit) { c.Nodes[2].In[0], c.Mems[0].Write = 1, 1 }},
	} {
		c := of([]int{0}, in(api.Input), in(api.Not, 0), in(api.Nand, 0, 0, 0), in(api.Buf, 0), in(api.Dff, 0))
		c.Mems = []api.Memory{{Addr: []int{0, 0}, Data: []int{0, 0}}}
		x.change(&c)
		expectRegions(t, x.name, c, 0, x.stem, 2, 3, 4)
		if isStem(c, 1) != (x.stem == 1) {
			t.Errorf("%s: not by the definition", x.name)
		}
	}
}

// TestRegionsAlone has regions of one node each.
func TestRegionsAlone(t *testing.T) {
	expectRegions(t, "all observed", chain(6, 1, 0, 1, 2, 3, 4, 5), 0, 1, 2, 3, 4, 5)
	expectRegions(t, "all pairs", of(nil, in(api.Input), in(api.And, 0, 0), in(api.Or, 1, 1), in(api.Xor, 2, 2)), 0, 1, 2, 3)
	expectRegions(t, "no readers", of(nil, in(api.Input), in(api.Zero), in(api.One), in(api.Dff, 3)), 0, 1, 2, 3)
}

// TestRegionsTree has a tree, and parts of it that points cut off.
func TestRegionsTree(t *testing.T) {
	c := of([]int{0}, in(api.And, 1, 2), in(api.Or, 3, 4), in(api.Xor, 5, 6), in(api.Input), in(api.Not, 7), in(api.Dff, 5), in(api.One), in(api.Input))
	expectRegions(t, "tree", c, 0, 0, 0, 0, 0, 5, 0, 0)
	c.Outs = []int{1, 4}
	expectRegions(t, "cut", c, 0, 1, 0, 1, 4, 5, 0, 4)
	c.Nodes[5].In[0] = 2
	expectRegions(t, "cut by a Dff", c, 0, 1, 2, 1, 4, 2, 2, 4)
}

func TestRegionsChains(t *testing.T) {
	for _, n := range []int{2, 100, api.MaxNodes} {
		for _, outs := range [][]int{nil, {n - 1}, {n - 1, n / 2}} {
			want := slices.Repeat([]int{n - 1}, n)
			if len(outs) == 2 {
				want = append(slices.Repeat([]int{n / 2}, n/2+1), want[n/2+1:]...)
			}
			expectRegions(t, "chain", chain(n, -1, outs...), want...)
		}
		expectRegions(t, "chain, backwards", chain(n, 1), slices.Repeat([]int{0}, n)...)
	}
}

func TestRegionsRandom(t *testing.T) {
	others := 0
	for i, c := range circuits(600, 40) {
		want := regionsOf(c)
		expectRegions(t, "circuit "+strconv.Itoa(i), c, want...)
		stems, _ := Stems(c)
		if !slices.Equal(stems, filter(len(c.Nodes), func(n int) bool { return isStem(c, n) })) {
			t.Errorf("circuit %d: Stems = %v", i, stems)
		}
		others += len(want) - len(stems)
	}
	if others < 2000 {
		t.Errorf("only %d nodes are no stems", others)
	}
}
