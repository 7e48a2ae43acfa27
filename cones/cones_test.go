package cones_test

import (
	"slices"
	"strconv"
	"testing"

	"probecard/api"
	. "probecard/cones"
)

// P5.2

// expectFanin checks the fanin cone of the nodes l.
func expectFanin(t *testing.T, name string, c api.Circuit, l []int, want ...int) {
	t.Helper()
	got, e := Fanin(c, l...)
	expectList(t, name+": Fanin", got, e, want...)
}

// expectFanout checks the fanout cone of the nodes l.
func expectFanout(t *testing.T, name string, c api.Circuit, l []int, want ...int) {
	t.Helper()
	got, e := Fanout(c, l...)
	expectList(t, name+": Fanout", got, e, want...)
}

func TestConesExample(t *testing.T) {
	c := example()
	expectFanin(t, "example", c, []int{2}, 0, 1, 2)
	expectFanin(t, "example", c, []int{3, 1}, 0, 1, 2, 3)
	expectFanout(t, "example", c, []int{1}, 1, 2, 3, 4)
}

func TestConesNone(t *testing.T) {
	for _, c := range circuits(20, 20) {
		for _, l := range [][]int{nil, {}} {
			expectFanin(t, "no nodes", c, l)
			expectFanout(t, "no nodes", c, l)
		}
	}
}

// TestConesFull has cones that end at Dff and Mem nodes, although these read nets of the cone.
func TestConesFull(t *testing.T) {
	c := full()
	expectFanin(t, "an Input", c, []int{0}, 0)
	expectFanin(t, "a Dff", c, []int{2}, 2)
	expectFanin(t, "a Dff that reads itself", c, []int{21}, 21)
	expectFanin(t, "a Mem", c, []int{7}, 7)
	expectFanin(t, "a constant", c, []int{4}, 4)
	expectFanin(t, "a gate", c, []int{11}, 0, 1, 2, 4, 9, 10, 11)
	expectFanin(t, "a Tri", c, []int{19}, 2, 6, 19)
	expectFanin(t, "several", c, []int{19, 2, 23}, 2, 6, 19, 21, 22, 23)
	expectFanin(t, "twice the same", c, []int{19, 19, 7, 19}, 2, 6, 7, 19)
	expectFanout(t, "an Input", c, []int{22}, 17, 22, 23, 24)
	expectFanout(t, "a Dff that reads itself", c, []int{21}, 17, 21, 23, 24)
	expectFanout(t, "a Mem", c, []int{8}, 5, 8, 15, 16, 17, 18, 20, 24, 25)
	expectFanout(t, "a Dff's data", c, []int{20}, 20)
	expectFanout(t, "no reader", c, []int{17}, 17)
	expectFanout(t, "several", c, []int{25, 23, 24, 19}, 5, 17, 19, 20, 23, 24, 25)
	expectFanout(t, "twice the same", c, []int{23, 23}, 17, 23, 24)
}

// TestConesAll compares the cones of each node and of each two nodes with the definition.
func TestConesAll(t *testing.T) {
	for i, c := range circuits(60, 16) {
		name := "circuit " + strconv.Itoa(i)
		depends := dependence(c)
		for a := range c.Nodes {
			expectFanin(t, name, c, []int{a}, faninOf(c, depends, a)...)
			expectFanout(t, name, c, []int{a}, fanoutOf(c, depends, a)...)
			for b := range c.Nodes {
				expectFanin(t, name, c, []int{a, b}, faninOf(c, depends, a, b)...)
				expectFanout(t, name, c, []int{a, b}, fanoutOf(c, depends, a, b)...)
			}
		}
	}
}

// TestConesLists compares the cones of many nodes, some of them given several times, with the definition.
func TestConesLists(t *testing.T) {
	r := random(21)
	for range 300 {
		c := r.circuit(1 + r.below(40))
		depends := dependence(c)
		for range 10 {
			l := r.numbers(r.below(8), 0, len(c.Nodes))
			expectFanin(t, "list", c, l, faninOf(c, depends, l...)...)
			expectFanout(t, "list", c, l, fanoutOf(c, depends, l...)...)
		}
		all := r.permutation(len(c.Nodes))
		expectFanin(t, "all", c, all, filter(len(c.Nodes), func(int) bool { return true })...)
		expectFanout(t, "all", c, all, filter(len(c.Nodes), func(int) bool { return true })...)
	}
}

// TestConesErrArg has an index that is not valid at each place among valid ones.
func TestConesErrArg(t *testing.T) {
	c := full()
	for _, n := range wrong(len(c.Nodes)) {
		for at := range 6 {
			l := slices.Insert([]int{3, 25, 0, 3, 7}, at, n)
			if got, e := Fanin(c, l...); e != api.ErrArg || len(got) != 0 {
				t.Errorf("Fanin of %v: %v with error %d", l, got, e)
			}
			if got, e := Fanout(c, l...); e != api.ErrArg || len(got) != 0 {
				t.Errorf("Fanout of %v: %v with error %d", l, got, e)
			}
		}
	}
}

// TestConesLarge has the deepest and the widest circuits, with very many ways between two nodes, and a long list.
func TestConesLarge(t *testing.T) {
	const n = api.MaxNodes
	all := filter(n, func(int) bool { return true })
	expectFanin(t, "chain", chain(n, -1), []int{n - 1}, all...)
	expectFanout(t, "chain", chain(n, -1), []int{0}, all...)
	expectFanin(t, "chain, backwards", chain(n, 1), []int{0}, all...)
	expectFanout(t, "chain, backwards", chain(n, 1), []int{n - 1}, all...)
	expectFanin(t, "half a chain", chain(n, -1), []int{n / 2}, all[:n/2+1]...)
	expectFanout(t, "half a chain", chain(n, -1), []int{n / 2, n - 1}, all[n/2:]...)
	expectFanin(t, "wide", wide(n), []int{n - 1}, all...)
	expectFanout(t, "wide", wide(n), []int{0}, all...)
	expectFanout(t, "wide", wide(n), slices.Repeat([]int{n - 1, n - 3}, 100000), n-3, n-2, n-1)
}

// wide returns a circuit of n nodes, of which each reads MaxFanin times the ones before it, and the last is the output.
func wide(n int) api.Circuit {
	nodes := make([]api.Node, n)
	for i := 1; i < n; i++ {
		nets := make([]int, api.MaxFanin)
		for k := range nets {
			nets[k] = max(i-1-k, 0)
		}
		nodes[i] = in(api.Nand, nets...)
	}
	return of([]int{n - 1}, nodes...)
}
