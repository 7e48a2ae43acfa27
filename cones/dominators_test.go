package cones_test

import (
	"cmp"
	"slices"
	"strconv"
	"testing"

	"probecard/api"
	. "probecard/cones"
	"probecard/netlists"
)

// P5.3

// expectDominators checks the dominators of each node.
func expectDominators(t *testing.T, name string, c api.Circuit, want ...[]int) {
	t.Helper()
	if len(want) != len(c.Nodes) {
		t.Fatalf("%s: %d lists for %d nodes", name, len(want), len(c.Nodes))
	}
	for n, l := range want {
		got, e := Dominators(c, n)
		expectList(t, name+": Dominators of "+strconv.Itoa(n), got, e, l...)
	}
}

func TestDominatorsExample(t *testing.T) {
	expectDominators(t, "example", example(), []int{4}, []int{4}, []int{3, 4}, []int{4}, nil)
}

// TestDominatorsNoPath has nodes that lead nowhere, and one that leads to some of them.
func TestDominatorsNoPath(t *testing.T) {
	c := of(nil, in(api.Input), in(api.Not, 0), in(api.Not, 1), in(api.And, 1, 2))
	expectDominators(t, "unobserved", c, nil, nil, nil, nil)
	c.Outs = []int{2}
	expectDominators(t, "partly observed", c, []int{1, 2}, []int{2}, nil, nil)
	c.Outs = []int{0}
	expectDominators(t, "observed before", c, nil, nil, nil, nil)
	c.Outs = []int{3}
	expectDominators(t, "observed behind", c, []int{1, 3}, []int{3}, []int{3}, nil)
}

// TestDominatorsDead has readers without a path at each place among those with one.
func TestDominatorsDead(t *testing.T) {
	for dead := 1; dead <= 4; dead++ {
		nets := filter(5, func(i int) bool { return i > 0 && i != dead })
		c := of([]int{6}, in(api.Input), in(api.Buf, 0), in(api.Not, 0), in(api.Buf, 0), in(api.Not, 0), in(api.Or, nets...), in(api.Not, 5))
		want := [][]int{{5, 6}, {5, 6}, {5, 6}, {5, 6}, {5, 6}, {6}, nil}
		want[dead] = nil
		expectDominators(t, "dead "+strconv.Itoa(dead), c, want...)
	}
}

// TestDominatorsPoints has paths of one node, and paths that pass other observation points.
func TestDominatorsPoints(t *testing.T) {
	expectDominators(t, "chain", chain(5, -1, 4), []int{1, 2, 3, 4}, []int{2, 3, 4}, []int{3, 4}, []int{4}, nil)
	expectDominators(t, "a point within", chain(5, -1, 4, 2), []int{1, 2}, []int{2}, nil, []int{4}, nil)
	expectDominators(t, "the first node", chain(5, -1, 4, 0), nil, []int{2, 3, 4}, []int{3, 4}, []int{4}, nil)
	expectDominators(t, "backwards", chain(5, 1, 0, 1), nil, nil, []int{1}, []int{2, 1}, []int{3, 2, 1})
	// a point on one of two branches
	c := of([]int{5, 2}, in(api.Input), in(api.Not, 0), in(api.Not, 1), in(api.Buf, 1), in(api.And, 2, 3), in(api.Not, 4))
	expectDominators(t, "a branch", c, []int{1}, nil, nil, []int{4, 5}, []int{5}, nil)
}

// TestDominatorsWays has each of the other observation points: the data of a Dff and the ports of a memory.
func TestDominatorsWays(t *testing.T) {
	for i, observe := range []func(c *api.Circuit){
		func(c *api.Circuit) { c.Outs = []int{2} },
		func(c *api.Circuit) { c.Nodes[4].In[0] = 2 },
		func(c *api.Circuit) { c.Mems[0].Addr[1] = 2 },
		func(c *api.Circuit) { c.Mems[0].Data[1] = 2 },
		func(c *api.Circuit) { c.Mems[0].Write = 2 },
	} {
		c := of(nil, in(api.Input), in(api.Not, 0), in(api.Not, 1), in(api.Not, 2), in(api.Dff, 4))
		c.Mems = []api.Memory{{Addr: []int{4, 4}, Data: []int{4, 4}, Write: 4}}
		expectDominators(t, "unobserved", c, nil, nil, nil, nil, nil)
		observe(&c)
		expectDominators(t, "observed by "+strconv.Itoa(i), c, []int{1, 2}, []int{2}, nil, nil, nil)
	}
}

// TestDominatorsState has a path that does not go on through a Dff or a Mem.
func TestDominatorsState(t *testing.T) {
	c := of([]int{5}, in(api.Input), in(api.Not, 0), in(api.Dff, 1), in(api.Not, 2), api.Node{Kind: api.Mem}, in(api.And, 3, 4))
	c.Mems = []api.Memory{{Addr: []int{0}, Data: []int{1}, Write: 0}}
	expectDominators(t, "state", c, nil, nil, []int{3, 5}, []int{5}, []int{5}, nil)
	c.Mems = append(c.Mems, api.Memory{Addr: []int{3}, Data: []int{3}, Write: 3})
	expectDominators(t, "state", c, nil, nil, []int{3}, nil, []int{5}, nil)
}

// TestDominatorsPins has a reader of the same net at two pins.
func TestDominatorsPins(t *testing.T) {
	c := of([]int{3}, in(api.Input), in(api.Xor, 0, 0), in(api.Mux, 1, 0, 1), in(api.And, 2, 2, 2))
	expectDominators(t, "pins", c, []int{2, 3}, []int{2, 3}, []int{3}, nil)
}

// TestDominatorsOrder has branches of different lengths, so that the dominators' indices and levels are in another order than those of the branches.
func TestDominatorsOrder(t *testing.T) {
	c := of([]int{0}, []api.Node{
		0:  in(api.Not, 5),
		1:  in(api.Input),
		2:  in(api.Not, 1),
		3:  in(api.Not, 2),
		4:  in(api.Not, 3),
		5:  in(api.Xor, 9, 8),
		6:  in(api.And, 1, 4),
		7:  in(api.Not, 6),
		8:  in(api.Not, 7),
		9:  in(api.Or, 6, 10),
		10: in(api.Zero),
	}...)
	expectDominators(t, "order", c, nil, []int{6, 5, 0}, []int{3, 4, 6, 5, 0}, []int{4, 6, 5, 0}, []int{6, 5, 0}, []int{0}, []int{5, 0}, []int{8, 5, 0}, []int{5, 0}, []int{5, 0}, []int{9, 5, 0})
}

// TestDominatorsFull has nodes of all kinds.
func TestDominatorsFull(t *testing.T) {
	c := full()
	for n := range c.Nodes {
		got, e := Dominators(c, n)
		expectList(t, "full: "+strconv.Itoa(n), got, e, dominatorsOf(c, n)...)
	}
	for n, want := range map[int][]int{1: {9}, 2: nil, 3: {13, 14, 15}, 5: {25}, 8: {15}, 10: nil, 11: {12}, 13: {14, 15}, 18: nil, 19: nil, 22: nil} {
		got, e := Dominators(c, n)
		expectList(t, "full: "+strconv.Itoa(n), got, e, want...)
	}
}

// TestDominatorsPaths compares the dominators with the nodes on all paths.
func TestDominatorsPaths(t *testing.T) {
	counts := map[int]int{}
	for i, c := range circuits(1500, 14) {
		for n := range c.Nodes {
			got, e := Dominators(c, n)
			expectList(t, "circuit "+strconv.Itoa(i)+": Dominators of "+strconv.Itoa(n), got, e, dominatorsOf(c, n)...)
			counts[len(got)]++
		}
	}
	if counts[1] < 500 || counts[2] < 200 || counts[3] < 50 {
		t.Errorf("numbers of dominators: %v", counts)
	}
}

// TestDominatorsCuts compares the dominators with the nodes without which there is no path.
func TestDominatorsCuts(t *testing.T) {
	for i, c := range circuits(80, 60) {
		levels, _ := netlists.Levels(c)
		for n := range c.Nodes {
			want := filter(len(c.Nodes), func(d int) bool { return d != n && hasPath(c, n, -1) && !hasPath(c, n, d) })
			slices.SortFunc(want, func(a, b int) int { return cmp.Compare(levels[a], levels[b]) })
			got, e := Dominators(c, n)
			expectList(t, "circuit "+strconv.Itoa(i)+": Dominators of "+strconv.Itoa(n), got, e, want...)
		}
	}
}

// TestDominatorsLarge has the deepest and the widest circuits, and very many paths.
func TestDominatorsLarge(t *testing.T) {
	const n = api.MaxNodes
	up := filter(n, func(int) bool { return true })
	down := slices.Clone(up)
	slices.Reverse(down)
	for _, x := range []struct {
		name string
		c    api.Circuit
		of   int
		want []int
	}{
		{"chain", chain(n, -1, n-1), 0, up[1:]},
		{"chain, backwards", chain(n, 1, 0), n - 1, down[1:]},
		{"chain, unobserved", chain(n, 1), n - 1, nil},
		{"chain, half observed", chain(n, -1, n/2), 0, up[1 : n/2+1]},
		{"wide", wide(n), 0, []int{n - 1}},
		{"wide, near the end", wide(n), n - 2, []int{n - 1}},
		{"diamonds", diamonds(n / 3), 0, filter(n, func(i int) bool { return i > 0 && i%3 == 0 })},
		{"diamonds, one branch", diamonds(n / 3), 2, filter(n, func(i int) bool { return i > 0 && i%3 == 0 })},
	} {
		got, e := Dominators(x.c, x.of)
		if e != api.OK || !slices.Equal(got, x.want) {
			t.Errorf("%s: %d dominators, not %d, with error %d", x.name, len(got), len(x.want), e)
		}
	}
}

// diamonds returns n diamonds in a row: two ways lead from node 3k to node 3k+3.
func diamonds(n int) api.Circuit {
	nodes := []api.Node{in(api.Input)}
	for k := range n {
		nodes = append(nodes, in(api.Not, 3*k), in(api.Buf, 3*k), in(api.And, 3*k+1, 3*k+2))
	}
	return of([]int{3 * n}, nodes...)
}
