package netlists_test

import (
	"slices"
	"strconv"
	"testing"

	"probecard/api"
	. "probecard/netlists"
)

// fullLevels holds the levels of the nodes of full.
var fullLevels = []int{0, 1, 0, 0, 0, 11, 0, 0, 0, 2, 3, 4, 5, 6, 7, 8, 9, 12, 10, 1, 11, 0, 0, 1, 11, 12}

// fullOrder holds the order of the nodes of full.
var fullOrder = []int{0, 2, 3, 4, 6, 7, 8, 21, 22, 1, 19, 23, 9, 10, 11, 12, 13, 14, 15, 16, 18, 5, 20, 24, 17, 25}

// levelsOf returns the levels of a circuit without loops: each is raised until it is above the levels of the nets that are read.
func levelsOf(c api.Circuit) []int {
	levels := make([]int, len(c.Nodes))
	for changed := true; changed; {
		changed = false
		for i, n := range c.Nodes {
			for _, net := range n.In {
				if n.Kind != api.Dff && levels[i] <= levels[net] {
					levels[i], changed = levels[net]+1, true
				}
			}
		}
	}
	return levels
}

// orderOf returns the nodes by level, one level at a time.
func orderOf(levels []int) []int {
	var order []int
	for level := range len(levels) {
		order = append(order, filter(len(levels), func(i int) bool { return levels[i] == level })...)
	}
	return order
}

// expectLevels checks the levels and the order of a valid circuit.
func expectLevels(t *testing.T, name string, c api.Circuit, levels, order []int) {
	t.Helper()
	if got, e := Levels(c); e != api.OK || !slices.Equal(got, levels) {
		t.Errorf("%s: Levels = %v, not %v, with error %d", name, got, levels, e)
	}
	if got, e := Order(c); e != api.OK || !slices.Equal(got, order) {
		t.Errorf("%s: Order = %v, not %v, with error %d", name, got, order, e)
	}
}

// renamed returns c with other names, which are in another alphabetical order.
func renamed(c api.Circuit) api.Circuit {
	c.Names = nil
	for i := range c.Nodes {
		c.Names = append(c.Names, "~"+strconv.Itoa(len(c.Nodes)-i))
	}
	return c
}

// renumbered returns c with the index to[i] for each node i.
func renumbered(c api.Circuit, to []int) api.Circuit {
	nets := func(l []int) []int {
		var out []int
		for _, net := range l {
			out = append(out, to[net])
		}
		return out
	}
	d := api.Circuit{Nodes: make([]api.Node, len(c.Nodes)), Names: make([]string, len(c.Nodes)), Outs: nets(c.Outs)}
	for i, n := range c.Nodes {
		n.In = nets(n.In)
		d.Nodes[to[i]], d.Names[to[i]] = n, c.Names[i]
	}
	for _, m := range c.Mems {
		d.Mems = append(d.Mems, api.Memory{Addr: nets(m.Addr), Data: nets(m.Data), Write: to[m.Write]})
	}
	return d
}

// inOrder reports whether every combinational node of c stands in order after all nodes whose nets it reads.
func inOrder(c api.Circuit, order []int) bool {
	place := make([]int, len(order))
	for k, i := range order {
		place[i] = k
	}
	for i, n := range c.Nodes {
		combinational := n.Kind >= api.Zero && n.Kind <= api.Bus
		if combinational && slices.ContainsFunc(n.In, func(net int) bool { return place[net] >= place[i] }) {
			return false
		}
	}
	return true
}

// hasOrder reports whether any order of the nodes has the property of inOrder; it tries all orders.
func hasOrder(c api.Circuit) bool {
	order := make([]int, 0, len(c.Nodes))
	var try func() bool
	try = func() bool {
		if len(order) == len(c.Nodes) {
			return inOrder(c, order)
		}
		for i := range c.Nodes {
			if slices.Contains(order, i) {
				continue
			}
			order = append(order, i)
			if try() {
				return true
			}
			order = order[:len(order)-1]
		}
		return false
	}
	return try()
}

// P3.5

func TestLevelsExamples(t *testing.T) {
	expectLevels(t, "example", example(), []int{0, 0, 1, 2}, []int{0, 1, 2, 3})
	expectLevels(t, "full", full(), fullLevels, fullOrder)
	expectLevels(t, "no nodes", api.Circuit{}, nil, nil)
	expectLevels(t, "one node", named(api.Circuit{Nodes: make([]api.Node, 1)}), []int{0}, []int{0})
}

// TestLevelsKinds has a node of each kind that reads nets of level 1, and one that reads its net.
func TestLevelsKinds(t *testing.T) {
	for kind := range api.Mem + 1 {
		for n := least[kind]; n <= most[kind]; n++ {
			c := fanned(kind, n)
			c.Nodes = append(c.Nodes, api.Node{Kind: api.Not, In: []int{2}})
			levels := []int{0, 1, 0, 1}
			if kind >= api.Buf && kind <= api.Bus {
				levels = []int{0, 1, 2, 3}
			}
			expectLevels(t, "kind "+strconv.Itoa(int(kind)), named(c), levels, orderOf(levels))
		}
	}
}

// TestLevelsPins has the deepest of the nets on each pin: the level is that of the maximum, whichever pin comes first.
func TestLevelsPins(t *testing.T) {
	for n := 2; n <= api.MaxFanin; n++ {
		for deep := range n {
			c := named(api.Circuit{Nodes: []api.Node{
				{Kind: api.Or, In: slices.Repeat([]int{1}, n)},
				{Kind: api.Not, In: []int{4}},
				{Kind: api.Not, In: []int{1}},
				{Kind: api.Not, In: []int{2}},
				{Kind: api.Input},
			}})
			c.Nodes[0].In[deep] = 3
			expectLevels(t, "pin "+strconv.Itoa(deep), c, []int{4, 1, 2, 3, 0}, []int{4, 1, 2, 3, 0})
		}
	}
}

func TestLevelsChains(t *testing.T) {
	for _, n := range []int{1, 2, 100, api.MaxNodes} {
		up := filter(n, func(int) bool { return true })
		down := slices.Clone(up)
		slices.Reverse(down)
		expectLevels(t, "chain", chain(n, -1), up, up)
		expectLevels(t, "chain, backwards", chain(n, 1), down, down)
	}
}

// TestLevelsWide has the greatest number of pins, and a number of paths that is exponential in the number of nodes.
func TestLevelsWide(t *testing.T) {
	c := api.Circuit{Nodes: make([]api.Node, api.MaxNodes)}
	want := make([]int, api.MaxNodes)
	for i := 1; i < len(want); i++ {
		in := make([]int, api.MaxFanin)
		for k := range in {
			in[k] = max(i-1-k, 0)
		}
		c.Nodes[i], want[i] = api.Node{Kind: api.Nand, In: in}, i
	}
	expectLevels(t, "wide", named(c), want, want)
}

func TestLevelsRandom(t *testing.T) {
	valid, looped := 0, 0
	for seed := range random(2000) {
		c := seed.circuit(1+seed.below(40), seed.below(7))
		if loops(c) {
			looped++
			expectError(t, "loop", c, api.ErrLoop)
			continue
		}
		valid++
		levels := levelsOf(c)
		expectLevels(t, "random", c, levels, orderOf(levels))
	}
	if valid < 500 || looped < 200 {
		t.Errorf("%d valid circuits and %d with loops", valid, looped)
	}
}

// P3.7

func TestOrderStandsAfter(t *testing.T) {
	circuits := []api.Circuit{example(), full(), chain(50, 1), chain(50, -1)}
	for seed := range random(500) {
		if c := seed.circuit(1+seed.below(60), 3); !loops(c) {
			circuits = append(circuits, renumbered(c, seed.permutation(len(c.Nodes))))
		}
	}
	if len(circuits) < 100 {
		t.Errorf("only %d circuits", len(circuits))
	}
	for _, c := range circuits {
		order, e := Order(c)
		if e != api.OK || len(order) != len(c.Nodes) {
			t.Errorf("Order returns %d nodes of %d and error %d", len(order), len(c.Nodes), e)
			continue
		}
		sorted := slices.Clone(order)
		slices.Sort(sorted)
		if !slices.Equal(sorted, filter(len(order), func(int) bool { return true })) {
			t.Errorf("Order = %v does not hold each node once", order)
		} else if !inOrder(c, order) {
			t.Errorf("Order = %v of %+v", order, c)
		}
	}
}

// TestOrderExists tries all orders of small circuits: there is one if and only if the circuit is valid.
func TestOrderExists(t *testing.T) {
	seen := map[bool]int{}
	for seed := range random(1500) {
		c := seed.circuit(1+seed.below(5), 40)
		exists := hasOrder(c)
		seen[exists]++
		want := api.OK
		if !exists {
			want = api.ErrLoop
		}
		if e := Check(c); e != want {
			t.Errorf("circuit %+v: error %d, not %d", c, e, want)
		}
	}
	if seen[true] < 300 || seen[false] < 300 {
		t.Errorf("%d circuits with an order and %d without one", seen[true], seen[false])
	}
}

func TestRenamed(t *testing.T) {
	expectLevels(t, "full", renamed(full()), fullLevels, fullOrder)
	for seed := range random(300) {
		c := seed.circuit(1+seed.below(30), 2)
		before, e := Levels(c)
		after, f := Levels(renamed(c))
		if e != f || !slices.Equal(before, after) {
			t.Errorf("levels %v and, with other names, %v (errors %d and %d)", before, after, e, f)
		}
	}
}

func TestRenumbered(t *testing.T) {
	circuits := []api.Circuit{full(), example(), chain(200, 1)}
	for seed := range random(300) {
		circuits = append(circuits, seed.circuit(1+seed.below(30), 2))
	}
	r := random(1)
	for _, c := range circuits {
		to := r.permutation(len(c.Nodes))
		before, e := Levels(c)
		after, f := Levels(renumbered(c, to))
		if e != f || len(before) != len(after) {
			t.Errorf("%d and %d levels, errors %d and %d", len(before), len(after), e, f)
			continue
		}
		for i, level := range before {
			if after[to[i]] != level {
				t.Errorf("level %d and, with another number, %d", level, after[to[i]])
			}
		}
	}
}
