package cones_test

import (
	"slices"
	"strconv"
	"testing"

	"probecard/api"
	. "probecard/cones"
)

// P5.5

// expectMeets checks at which nodes the fanout of each node reconverges.
func expectMeets(t *testing.T, name string, c api.Circuit, want ...[]int) {
	t.Helper()
	if len(want) != len(c.Nodes) {
		t.Fatalf("%s: %d lists for %d nodes", name, len(want), len(c.Nodes))
	}
	for n, l := range want {
		got, e := Meets(c, n)
		expectList(t, name+": Meets of "+strconv.Itoa(n), got, e, l...)
	}
}

func TestMeetsExample(t *testing.T) {
	expectMeets(t, "example", example(), []int{2, 4}, []int{4}, nil, nil, nil)
}

// TestMeetsPins has a node that reads the same net at two or three pins, and one that reads it and a net behind it.
func TestMeetsPins(t *testing.T) {
	expectMeets(t, "one pin", of(nil, in(api.Input), in(api.Not, 0)), nil, nil)
	expectMeets(t, "two pins", of(nil, in(api.Input), in(api.And, 0, 0)), []int{1}, nil)
	expectMeets(t, "two of three pins", of(nil, in(api.Input), in(api.Mux, 0, 2, 0), in(api.Input)), []int{1}, nil, nil)
	expectMeets(t, "three pins", of(nil, in(api.Input), in(api.Xor, 0, 0, 0)), []int{1}, nil)
	expectMeets(t, "behind", of(nil, in(api.Input), in(api.Not, 0), in(api.Or, 0, 1)), []int{2}, nil, nil)
	expectMeets(t, "others", of(nil, in(api.Input), in(api.Input), in(api.Nor, 0, 1)), nil, nil, nil)
}

// TestMeetsBehind has nodes behind a place of reconvergence, of which some reconverge too.
func TestMeetsBehind(t *testing.T) {
	c := of([]int{0}, []api.Node{
		0: in(api.Xor, 1, 2),
		1: in(api.Not, 2),
		2: in(api.And, 4, 3),
		3: in(api.Buf, 5),
		4: in(api.Not, 5),
		5: in(api.Input),
		6: in(api.Or, 7, 0),
		7: in(api.Input),
	}...)
	expectMeets(t, "behind", c, nil, nil, []int{0}, []int{0}, []int{0}, []int{0, 2}, nil, nil)
}

// TestMeetsState has a fanout that ends at a Dff and at a memory.
func TestMeetsState(t *testing.T) {
	c := of([]int{4}, in(api.Input), in(api.Dff, 0), in(api.Not, 1), api.Node{Kind: api.Mem}, in(api.And, 0, 2, 3))
	c.Mems = []api.Memory{{Addr: []int{0}, Data: []int{0}, Write: 0}}
	expectMeets(t, "state", c, nil, nil, nil, nil, nil)
	c.Nodes[4].In[2] = 1
	expectMeets(t, "state", c, nil, []int{4}, nil, nil, nil)
}

// TestMeetsBuses has a Tri whose drivers come from one net, and a Bus that reads a Tri twice.
func TestMeetsBuses(t *testing.T) {
	c := of([]int{3}, in(api.Input), in(api.Tri, 0, 0), in(api.Tri, 4, 0), in(api.Bus, 1, 2), in(api.Input), in(api.Bus, 2, 1, 2))
	expectMeets(t, "buses", c, []int{1, 3, 5}, nil, []int{5}, nil, []int{5}, nil)
}

// TestMeetsUnobserved has no observation points: they do not matter.
func TestMeetsUnobserved(t *testing.T) {
	c := example()
	c.Outs = nil
	expectMeets(t, "unobserved", c, []int{2, 4}, []int{4}, nil, nil, nil)
	c.Outs = []int{0, 1, 2, 3, 4}
	expectMeets(t, "observed", c, []int{2, 4}, []int{4}, nil, nil, nil)
}

func TestMeetsRandom(t *testing.T) {
	some := 0
	for i, c := range circuits(500, 30) {
		depends := dependence(c)
		for n := range c.Nodes {
			got, e := Meets(c, n)
			expectList(t, "circuit "+strconv.Itoa(i)+": Meets of "+strconv.Itoa(n), got, e, meetsOf(c, depends, n)...)
			some += min(len(got), 1)
		}
	}
	if some < 1000 {
		t.Errorf("only %d nodes reconverge", some)
	}
}

func TestMeetsLarge(t *testing.T) {
	const n = api.MaxNodes
	for _, x := range []struct {
		name string
		c    api.Circuit
		of   int
		want []int
	}{
		{"chain", chain(n, -1), 0, nil},
		{"chain, backwards", chain(n, 1), n - 1, nil},
		{"wide", wide(n), 0, filter(n, func(i int) bool { return i > 0 })},
		{"wide, within", wide(n), n - 5, []int{n - 3, n - 2, n - 1}},
		{"diamonds", diamonds(n / 3), 0, filter(n, func(i int) bool { return i > 0 && i%3 == 0 })},
	} {
		if got, e := Meets(x.c, x.of); e != api.OK || !slices.Equal(got, x.want) {
			t.Errorf("%s: %d nodes, not %d, with error %d", x.name, len(got), len(x.want), e)
		}
	}
}
