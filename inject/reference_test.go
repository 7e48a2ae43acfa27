package inject_test

import (
	"slices"
	"strconv"

	"probecard/api"
	"probecard/faults"
	"probecard/logic"
	"probecard/sims"
)

// The chapter's definitions, word by word and without regard to time.

// both returns the value of two nets that are connected: a known value that wins if one of them has it, the other known value if both have it, and otherwise X.
func both(wins, a, b api.Value) api.Value {
	loses := 1 - wins
	switch {
	case a == wins || b == wins:
		return wins
	case a == loses && b == loses:
		return loses
	}
	return api.VX
}

// lineChange tells what a fault makes of the value v of the line at a pin, or at the output of a node (Pin -1).
type lineChange func(node, pin int, v api.Value) api.Value

// noChange is that of a cycle without fault.
func noChange(_, _ int, v api.Value) api.Value { return v }

// netsOf returns the values of all nets of a valid circuit without memories, each from those that its node reads.
func netsOf(c api.Circuit, p api.Pattern, change lineChange) []api.Value {
	l := make([]api.Value, len(c.Nodes))
	done := make([]bool, len(c.Nodes))
	var find func(net int) api.Value
	find = func(net int) api.Value {
		if done[net] {
			return l[net]
		}
		var v api.Value
		switch n := c.Nodes[net]; n.Kind {
		case api.Input:
			v = p.In[rank(c, net)]
		case api.Dff:
			v = p.State[rank(c, net)]
		default:
			var pins []api.Value
			for pin, from := range n.In {
				pins = append(pins, change(net, pin, find(from)))
			}
			v = logic.Eval(n.Kind, pins...)
		}
		l[net], done[net] = change(net, -1, v), true
		return l[net]
	}
	for net := range c.Nodes {
		find(net)
	}
	return l
}

// rank returns how many nodes before a node are of its kind.
func rank(c api.Circuit, node int) int {
	i := 0
	for _, n := range c.Nodes[:node] {
		if n.Kind == c.Nodes[node].Kind {
			i++
		}
	}
	return i
}

// responseOf returns the response for the values of the nets.
func responseOf(c api.Circuit, nets []api.Value, change lineChange) api.Response {
	var r api.Response
	for _, net := range c.Outs {
		r.Out = append(r.Out, nets[net])
	}
	for i, n := range c.Nodes {
		if n.Kind != api.Dff {
			continue
		}
		v := change(i, 0, nets[n.In[0]])
		if v == api.VZ {
			v = api.VX
		}
		r.Next = append(r.Next, v)
	}
	return r
}

// runOf returns the response and the values of all nets of the cycle with a fault.
func runOf(c api.Circuit, f api.Fault, p api.Pattern) (api.Response, []api.Value) {
	good := netsOf(c, p, noChange)
	change := func(node, pin int, v api.Value) api.Value {
		switch {
		case f.Model == api.Stuck && node == f.Line.Node && pin == f.Line.Pin:
			return f.Value
		case f.Model == api.Wired && pin == -1 && (node == f.Line.Node || node == f.Other):
			return both(f.Value, good[f.Line.Node], good[f.Other])
		case f.Model == api.Strong && pin == -1 && node == f.Line.Node:
			return good[f.Other]
		}
		return v
	}
	nets := netsOf(c, p, change)
	return responseOf(c, nets, change), nets
}

// pairOf returns the response and the values of all nets of the second cycle of a pair with a slow line.
func pairOf(c api.Circuit, f api.Fault, first, second api.Pattern) (api.Response, []api.Value) {
	net := f.Line.Node
	if f.Line.Pin >= 0 {
		net = c.Nodes[net].In[f.Line.Pin]
	}
	before, after := netsOf(c, first, noChange)[net], netsOf(c, second, noChange)[net]
	change := func(node, pin int, v api.Value) api.Value {
		if node == f.Line.Node && pin == f.Line.Pin {
			return both(1-f.Value, before, after)
		}
		return v
	}
	nets := netsOf(c, second, change)
	return responseOf(c, nets, change), nets
}

// goodOf returns the response without fault.
func goodOf(c api.Circuit, p api.Pattern) api.Response {
	return responseOf(c, netsOf(c, p, noChange), noChange)
}

// contradict reports whether one of the values is 0 and the other is 1.
func contradict(a, b api.Value) bool { return a <= api.V1 && b <= api.V1 && a != b }

// differOf returns the positions at which two lists contradict each other.
func differOf(a, b []api.Value) []int {
	var l []int
	for i, v := range a {
		if i < len(b) && contradict(v, b[i]) {
			l = append(l, i)
		}
	}
	return l
}

// isDetected reports whether two responses contradict each other at some position.
func isDetected(good, bad api.Response) bool {
	return len(differOf(good.Out, bad.Out))+len(differOf(good.Next, bad.Next)) > 0
}

// cutOf returns the circuit of Cut, without regard to MaxNodes.
func cutOf(c api.Circuit, f api.Fault) api.Circuit {
	n := len(c.Nodes)
	var onBus bool
	reader := func(node, pin, net int) int { // what a reader of the net reads instead; it is an element of Outs if node is -1
		isLine := net == f.Line.Node && f.Line.Pin == -1 || node == f.Line.Node && pin == f.Line.Pin && node != -1
		isBus := node != -1 && c.Nodes[node].Kind == api.Bus
		switch {
		case f.Model == api.Stuck && isLine && isBus:
			onBus = true
			return n + 2
		case f.Model == api.Stuck && isLine, f.Model == api.Wired && (net == f.Line.Node || net == f.Other):
			return n
		case f.Model == api.Strong && isLine:
			return f.Other
		}
		return net
	}
	var d api.Circuit
	for i, x := range c.Nodes {
		y := api.Node{Kind: x.Kind}
		for pin, net := range x.In {
			y.In = append(y.In, reader(i, pin, net))
		}
		d.Nodes = append(d.Nodes, y)
	}
	for _, net := range c.Outs {
		d.Outs = append(d.Outs, reader(-1, -1, net))
	}
	switch {
	case f.Model == api.Stuck:
		d.Nodes = append(d.Nodes, in([]api.Kind{api.Zero, api.One}[f.Value]))
		if onBus {
			d.Nodes = append(d.Nodes, in(api.One), in(api.Tri, n+1, n))
		}
	case f.Model == api.Wired:
		d.Nodes = append(d.Nodes, in([]api.Kind{api.And, api.Or}[f.Value], f.Line.Node, f.Other))
	}
	d.Names = slices.Clone(c.Names)
	for k := 0; len(d.Names) < len(d.Nodes); k++ {
		if name := "fault" + strconv.Itoa(k); !slices.Contains(c.Names, name) {
			d.Names = append(d.Names, name)
		}
	}
	return d
}

// runError returns the error of Run and Detects.
func runError(c api.Circuit, f api.Fault, p api.Pattern) api.Errno {
	if e := faults.Check(c, f); e != api.OK {
		return e
	}
	if f.Model == api.Slow {
		return api.ErrKind
	}
	_, _, e := sims.Run(c, p)
	return e
}

// pairError returns the error of Pair and PairDetects.
func pairError(c api.Circuit, f api.Fault, first, second api.Pattern) api.Errno {
	if e := faults.Check(c, f); e != api.OK {
		return e
	}
	if f.Model != api.Slow {
		return api.ErrKind
	}
	if _, _, e := sims.Run(c, first); e != api.OK {
		return e
	}
	_, _, e := sims.Run(c, second)
	return e
}

// cutError returns the error of Cut.
func cutError(c api.Circuit, f api.Fault) api.Errno {
	if e := faults.Check(c, f); e != api.OK {
		return e
	}
	if f.Model == api.Slow {
		return api.ErrKind
	}
	if len(cutOf(c, f).Nodes) > api.MaxNodes {
		return api.ErrLimit
	}
	return api.OK
}

// sameResponse reports whether two responses have the same values.
func sameResponse(a, b api.Response) bool {
	return slices.Equal(a.Out, b.Out) && slices.Equal(a.Next, b.Next)
}
