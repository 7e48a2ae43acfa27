package rewrites

import (
	"slices"

	"probecard/api"
	"probecard/logic"
	"probecard/netlists"
)

// constants returns a valid circuit after the step Constants.
func constants(c api.Circuit) Result {
	r := unchanged(c)
	nets, onBus := unknown(c), netsOnBus(c)
	for i, n := range r.Circuit.Nodes {
		switch {
		case !logic.Known(nets[i]):
			r.Circuit.Nodes[i] = reduced(n, nets)
		case !onBus[i]: // a Bus may read nothing but Tri nodes
			r.Circuit.Nodes[i] = constant(nets[i])
		}
	}
	return r
}

// unknown returns the values of the nets of a valid circuit when those of all Input, Dff and Mem nodes are X.
func unknown(c api.Circuit) []api.Value {
	nets := slices.Repeat([]api.Value{api.VX}, len(c.Nodes))
	settle(c, order(c), nets)
	return nets
}

// order returns the nodes of a valid circuit, by level and index.
func order(c api.Circuit) []int {
	l, _ := netlists.Order(c)
	return l
}

// settle gives the nets of the combinational nodes, which are visited in the order of a valid circuit, the values that follow from those of the other nets.
func settle(c api.Circuit, order []int, nets []api.Value) {
	var in []api.Value
	for _, i := range order {
		n := c.Nodes[i]
		if !netlists.Comb(n.Kind) {
			continue
		}
		in = in[:0]
		for _, net := range n.In {
			in = append(in, nets[net])
		}
		nets[i] = logic.Eval(n.Kind, in...)
	}
}

// netsOnBus tells of each net whether a Bus reads it.
func netsOnBus(c api.Circuit) []bool {
	l := make([]bool, len(c.Nodes))
	for _, n := range c.Nodes {
		if n.Kind != api.Bus {
			continue
		}
		for _, net := range n.In {
			l[net] = true
		}
	}
	return l
}

// constant returns the node whose net has always the known value v.
func constant(v api.Value) api.Node {
	if v == api.V1 {
		return api.Node{Kind: api.One}
	}
	return api.Node{Kind: api.Zero}
}

// reduced returns a node whose net is not constant without the pins that have no effect because of the known values among those of the nets.
func reduced(n api.Node, nets []api.Value) api.Node {
	if v, is := logic.Control(n.Kind); is {
		return without(n, func(net int) bool { return nets[net] == logic.Not(v) })
	}
	known := func(net int) bool { return logic.Known(nets[net]) }
	switch {
	case n.Kind == api.Xor || n.Kind == api.Xnor:
		for _, net := range n.In {
			if nets[net] == api.V1 {
				n.Kind = opposite(n.Kind)
			}
		}
		return without(n, known)
	case n.Kind == api.Mux && known(n.In[0]):
		selected := n.In[1]
		if nets[n.In[0]] == api.V1 {
			selected = n.In[2]
		}
		return api.Node{Kind: api.Buf, In: []int{selected}}
	}
	return n
}

// opposite returns Xnor for Xor, and Xor for Xnor.
func opposite(kind api.Kind) api.Kind {
	if kind == api.Xor {
		return api.Xnor
	}
	return api.Xor
}

// without returns a gate without the pins that read certain nets.
func without(n api.Node, lost func(net int) bool) api.Node {
	n.In = slices.Clip(slices.DeleteFunc(n.In, lost))
	switch {
	case len(n.In) > 1:
	case logic.Inverts(n.Kind):
		n.Kind = api.Not
	default:
		n.Kind = api.Buf
	}
	return n
}
