package cones_test

import (
	"slices"
	"testing"

	"probecard/api"
	. "probecard/cones"
)

// P5.1

// expectPoints checks the observation points of any circuit, one net at a time.
func expectPoints(t *testing.T, c api.Circuit) {
	t.Helper()
	want := filter(len(c.Nodes), func(net int) bool { return isPoint(c, net) })
	if got := Points(c); !slices.Equal(got, want) {
		t.Errorf("Points of %+v = %v, not %v", c, got, want)
	}
}

func TestPointsExamples(t *testing.T) {
	expectList(t, "example", Points(example()), api.OK, 4)
	expectList(t, "full", Points(full()), api.OK, 0, 6, 7, 9, 12, 15, 16, 20, 21, 25)
	expectList(t, "no outputs", Points(of(nil, in(api.Input), in(api.Not, 0))), api.OK)
	expectList(t, "all outputs", Points(of([]int{2, 0, 1, 2, 0}, in(api.Input), in(api.Not, 0), in(api.Not, 0))), api.OK, 0, 1, 2)
}

// TestPointsPlaces names the net 2 in one place, while all others name the net 0.
func TestPointsPlaces(t *testing.T) {
	for i, x := range []struct {
		change func(c *api.Circuit)
		want   []int
	}{
		{func(c *api.Circuit) {}, []int{0}},
		{func(c *api.Circuit) { c.Outs = []int{2} }, []int{0, 2}},
		{func(c *api.Circuit) { c.Nodes[1].In[0] = 2 }, []int{0, 2}},
		{func(c *api.Circuit) { c.Mems[0].Addr[1] = 2 }, []int{0, 2}},
		{func(c *api.Circuit) { c.Mems[0].Data[0] = 2 }, []int{0, 2}},
		{func(c *api.Circuit) { c.Mems[0].Data[2] = 2 }, []int{0, 2}},
		{func(c *api.Circuit) { c.Mems[1].Write = 2 }, []int{0, 2}},
		{func(c *api.Circuit) { c.Mems[1].Addr[0] = 2 }, []int{0, 2}},
		{func(c *api.Circuit) { c.Nodes[4].In[1] = 2 }, []int{0}}, // not a Dff
	} {
		c := of(nil, in(api.Input), in(api.Dff, 0), in(api.Not, 0), in(api.Buf, 2), in(api.And, 0, 3))
		c.Mems = []api.Memory{{Addr: []int{0, 0}, Data: []int{0, 0, 0}}, {Addr: []int{0}, Data: []int{0}}}
		x.change(&c)
		if got := Points(c); !slices.Equal(got, x.want) {
			t.Errorf("change %d: Points = %v, not %v", i, got, x.want)
		}
		expectPoints(t, c)
	}
}

// TestPointsOutside has, in each place, indices outside of the nodes among valid ones.
func TestPointsOutside(t *testing.T) {
	for _, net := range wrong(8) {
		c := api.Circuit{Nodes: make([]api.Node, 8), Outs: []int{net, 1, net}}
		c.Nodes[3] = in(api.Dff, 2, net, 3, net)
		c.Nodes[7] = in(api.Dff)
		c.Nodes[6] = in(api.And, 7, net)
		c.Nodes[5] = in(200, 7, net)
		c.Mems = []api.Memory{{Addr: []int{net, 4}, Data: []int{net}, Write: 5}, {Write: net}, {Addr: []int{net}, Data: []int{0, net, 0}, Write: net}}
		if got, want := Points(c), []int{0, 1, 2, 3, 4, 5}; !slices.Equal(got, want) {
			t.Errorf("Points beside %d = %v, not %v", net, got, want)
		}
		c.Nodes = nil
		if got := Points(c); len(got) != 0 {
			t.Errorf("Points without nodes = %v", got)
		}
	}
}

// TestPointsInvalid has circuits that Check refuses, of any size.
func TestPointsInvalid(t *testing.T) {
	for _, f := range flaws() {
		c := full()
		f.change(&c)
		if len(c.Nodes) < 1000 {
			expectPoints(t, c)
		}
	}
	large := api.Circuit{Nodes: make([]api.Node, 2*api.MaxNodes), Outs: make([]int, 2*api.MaxNodes), Mems: make([]api.Memory, 2*api.MaxMems)}
	for i := range large.Outs {
		large.Outs[i] = len(large.Outs) - i // one of them is no node
	}
	for i := range large.Mems {
		large.Mems[i].Write = 1
	}
	want := filter(len(large.Nodes), func(i int) bool { return i > 0 })
	if got := Points(large); !slices.Equal(got, want) {
		t.Errorf("Points of a large circuit: %d", len(got))
	}
}

// broken returns a circuit with random kinds, pins, ports and outputs, few of which are valid.
func (r *random) broken() api.Circuit {
	n := r.below(9)
	c := api.Circuit{Nodes: make([]api.Node, n), Outs: r.numbers(r.below(4), -2, n+2)}
	for i := range c.Nodes {
		c.Nodes[i] = api.Node{Kind: api.Kind(10 + r.below(8)), In: r.numbers(r.below(4), -2, n+2), Mem: r.below(3) - 1, Bit: r.below(3) - 1}
	}
	for range r.below(3) {
		c.Mems = append(c.Mems, api.Memory{Addr: r.numbers(r.below(3), -2, n+2), Data: r.numbers(r.below(3), -2, n+2), Write: r.below(n+4) - 2})
	}
	return c
}

func TestPointsRandom(t *testing.T) {
	r := random(11)
	for range 3000 {
		expectPoints(t, r.broken())
	}
	for _, c := range circuits(500, 30) {
		expectPoints(t, c)
	}
}
