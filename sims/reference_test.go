package sims_test

import (
	"slices"

	"probecard/api"
	"probecard/logic"
)

// The definitions of the chapter, word by word and without regard to time.

// at returns the value of a net, and X if it has none or none that is valid.
func at(nets []api.Value, net int) api.Value {
	for i, v := range nets {
		if i == net && v <= api.VZ {
			return v
		}
	}
	return api.VX
}

// netsOf returns the values of all nets of a valid circuit without memories, each from those that it reads.
func netsOf(c api.Circuit, p api.Pattern) []api.Value {
	l := make([]api.Value, len(c.Nodes))
	done := make([]bool, len(c.Nodes))
	var find func(net int) api.Value
	find = func(net int) api.Value {
		if done[net] {
			return l[net]
		}
		n := c.Nodes[net]
		switch n.Kind {
		case api.Input:
			l[net] = p.In[rank(c, net)]
		case api.Dff:
			l[net] = p.State[rank(c, net)]
		default:
			var pins []api.Value
			for _, from := range n.In {
				pins = append(pins, find(from))
			}
			l[net] = logic.Eval(n.Kind, pins...)
		}
		done[net] = true
		return l[net]
	}
	for net := range c.Nodes {
		find(net)
	}
	return l
}

// rank returns how many nodes before a node are of its kind.
func rank(c api.Circuit, node int) int {
	i := 0
	for _, n := range c.Nodes[:node] {
		if n.Kind == c.Nodes[node].Kind {
			i++
		}
	}
	return i
}

// responseOf returns the response of any circuit for any values.
func responseOf(c api.Circuit, nets []api.Value) api.Response {
	var r api.Response
	for _, net := range c.Outs {
		r.Out = append(r.Out, at(nets, net))
	}
	for _, n := range c.Nodes {
		if n.Kind != api.Dff {
			continue
		}
		v := api.VX
		if len(n.In) == 1 && at(nets, n.In[0]) != api.VZ {
			v = at(nets, n.In[0])
		}
		r.Next = append(r.Next, v)
	}
	return r
}

// conflictsOf returns the Bus nodes of any circuit that are in conflict.
func conflictsOf(c api.Circuit, nets []api.Value) []int {
	return nodesWhere(c, func(n api.Node) bool {
		reads := func(v api.Value) bool {
			return slices.ContainsFunc(n.In, func(net int) bool { return at(nets, net) == v })
		}
		return n.Kind == api.Bus && reads(api.V0) && reads(api.V1)
	})
}

// faninOf tells of each net whether the values of a net may depend on it.
func faninOf(c api.Circuit, net int) []bool {
	cone := make([]bool, len(c.Nodes))
	var visit func(net int)
	visit = func(net int) {
		if cone[net] {
			return
		}
		cone[net] = true
		if kind := c.Nodes[net].Kind; kind != api.Dff {
			for _, from := range c.Nodes[net].In {
				visit(from)
			}
		}
	}
	visit(net)
	return cone
}

// sameResponse reports whether two responses have the same values.
func sameResponse(a, b api.Response) bool {
	return slices.Equal(a.Out, b.Out) && slices.Equal(a.Next, b.Next)
}

// allBelow reports whether each value of a is below the one of b at its place.
func allBelow(a, b []api.Value) bool {
	return slices.EqualFunc(a, b, func(x, y api.Value) bool { return x == y || x == api.VX })
}

// allKnown reports whether all values are 0 or 1.
func allKnown(l []api.Value) bool {
	return !slices.ContainsFunc(l, func(v api.Value) bool { return v > api.V1 })
}
