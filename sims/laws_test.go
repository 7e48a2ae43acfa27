package sims_test

import (
	"slices"
	"testing"

	"probecard/api"
	"probecard/logic"
	. "probecard/sims"
)

// P6.4

// raised returns values above l: some of the unknown ones are replaced by others below limit.
func (r *random) raised(l []api.Value, limit int) []api.Value {
	out := slices.Clone(l)
	for i, v := range out {
		if v == api.VX && r.below(3) > 0 {
			out[i] = api.Value(r.below(limit))
		}
	}
	return out
}

// unknowns returns a pattern for c in which many values are unknown.
func (r *random) unknowns(c api.Circuit) api.Pattern {
	p := r.pattern(c, 4)
	for _, l := range [][]api.Value{p.In, p.State} {
		for i := range l {
			if r.below(2) == 0 {
				l[i] = api.VX
			}
		}
	}
	return p
}

// TestMonotone checks that the values of the nets and the response rise with the pattern.
func TestMonotone(t *testing.T) {
	r := random(31)
	risen := map[api.Value]int{}
	for i, c := range circuits(400, 40) {
		for range 6 {
			p := r.unknowns(c)
			q := api.Pattern{In: r.raised(p.In, 4), State: r.raised(p.State, 4)}
			low, before, _ := Run(c, p)
			high, after, e := Run(c, q)
			if e != api.OK || !allBelow(before, after) || !allBelow(low.Out, high.Out) || !allBelow(low.Next, high.Next) {
				t.Errorf("circuit %d: from %v to %v: nets %s and %s, responses %v and %v, error %d", i, p, q, logic.Text(before...), logic.Text(after...), low, high, e)
			}
			for net, v := range after {
				if v != before[net] && c.Nodes[net].Kind != api.Input && c.Nodes[net].Kind != api.Dff {
					risen[v]++
				}
			}
		}
	}
	if risen[0] < 1000 || risen[1] < 1000 || risen[api.VZ] < 100 {
		t.Errorf("risen to the values: %v", risen)
	}
}

// TestKnownNets has all patterns above another one: a net that is known for the one below has the same value for all of them.
func TestKnownNets(t *testing.T) {
	r := random(32)
	kept, varied := 0, 0
	for i, c := range circuits(150, 12) {
		if count(c, api.Input)+count(c, api.Dff) > 4 {
			continue
		}
		for range 4 {
			p := r.unknowns(c)
			_, before, _ := Run(c, p)
			for k := range 256 {
				q := api.Pattern{In: slices.Clone(p.In), State: slices.Clone(p.State)}
				for at, v := range digits(k, 4) {
					switch {
					case at < len(q.In) && q.In[at] == api.VX:
						q.In[at] = v
					case at >= len(q.In) && at-len(q.In) < len(q.State) && q.State[at-len(q.In)] == api.VX:
						q.State[at-len(q.In)] = v
					}
				}
				_, after, e := Run(c, q)
				for net, v := range before {
					switch {
					case e != api.OK || logic.Known(v) && after[net] != v:
						t.Errorf("circuit %d: net %d is %d for %v and %d for %v, error %d", i, net, v, p, after[net], q, e)
					case logic.Known(v):
						kept++
					case after[net] != v:
						varied++
					}
				}
			}
		}
	}
	if kept < 10000 || varied < 10000 {
		t.Errorf("%d known values kept, %d others", kept, varied)
	}
}

// withoutTri returns the circuit with And for Tri nodes and Or for Bus nodes.
func withoutTri(c api.Circuit) api.Circuit {
	c.Nodes = slices.Clone(c.Nodes)
	for i, n := range c.Nodes {
		switch n.Kind {
		case api.Tri:
			c.Nodes[i].Kind = api.And
		case api.Bus:
			c.Nodes[i] = in(api.Or, append(slices.Clone(n.In), n.In[0])...)
		}
	}
	return c
}

// TestAllKnown has circuits without Tri nodes and patterns of known values: everything is known.
func TestAllKnown(t *testing.T) {
	r := random(33)
	for i, c := range circuits(300, 40) {
		c = withoutTri(c)
		for range 4 {
			p := r.pattern(c, 2)
			response, nets, e := Run(c, p)
			if e != api.OK || !allKnown(nets) || !allKnown(response.Out) || !allKnown(response.Next) {
				t.Errorf("circuit %d: nets %s, response %v for %v, error %d", i, logic.Text(nets...), response, p, e)
			}
			if l := Conflicts(c, nets); len(l) > 0 {
				t.Errorf("circuit %d: conflicts %v", i, l)
			}
		}
	}
}

// TestFanin changes the values of all inputs and states outside of the fanin of a net: the net keeps its value.
func TestFanin(t *testing.T) {
	r := random(34)
	changed := 0
	for i, c := range circuits(200, 25) {
		p := r.pattern(c, 4)
		_, before, _ := Run(c, p)
		for net := range c.Nodes {
			cone := faninOf(c, net)
			q := r.pattern(c, 4)
			for node, n := range c.Nodes {
				switch {
				case cone[node] && n.Kind == api.Input:
					q.In[rank(c, node)] = p.In[rank(c, node)]
				case cone[node] && n.Kind == api.Dff:
					q.State[rank(c, node)] = p.State[rank(c, node)]
				}
			}
			_, after, e := Run(c, q)
			if e != api.OK || after[net] != before[net] {
				t.Errorf("circuit %d: net %d is %d for %v and %d for %v, error %d", i, net, before[net], p, after[net], q, e)
			}
			if !slices.Equal(before, after) {
				changed++
			}
		}
	}
	if changed < 1000 {
		t.Errorf("%d times a net changes", changed)
	}
}
