package deductives_test

import (
	"slices"

	"probecard/api"
	"probecard/faults"
	"probecard/sims"
)

// The chapter's definitions, word by word and without regard to time.

// gateOf returns the output of a gate of a plain circuit for known values at its pins.
func gateOf(kind api.Kind, pins []api.Value) api.Value {
	ones := 0
	for _, v := range pins {
		ones += int(v)
	}
	is := false
	switch kind {
	case api.One:
		is = true
	case api.Buf, api.Or:
		is = ones > 0
	case api.Not, api.Nor:
		is = ones == 0
	case api.And:
		is = ones == len(pins)
	case api.Nand:
		is = ones < len(pins)
	case api.Xor:
		is = ones%2 == 1
	case api.Xnor:
		is = ones%2 == 0
	case api.Mux:
		is = pins[1+pins[0]] == 1
	}
	if is {
		return 1
	}
	return 0
}

// onLine returns the value of a line that has the value v without fault.
func onLine(node, pin int, v api.Value, stuck []api.Fault) api.Value {
	for _, f := range stuck {
		if f.Line.Node == node && f.Line.Pin == pin {
			return f.Value
		}
	}
	return v
}

// netsOf returns the values of all nets of a plain circuit, each from those that its node reads, without fault or with one.
func netsOf(c api.Circuit, p api.Pattern, stuck ...api.Fault) []api.Value {
	l := make([]api.Value, len(c.Nodes))
	done := make([]bool, len(c.Nodes))
	var find func(net int) api.Value
	find = func(net int) api.Value {
		if done[net] {
			return l[net]
		}
		var v api.Value
		switch n := c.Nodes[net]; n.Kind {
		case api.Input:
			v = p.In[rank(c, net)]
		case api.Dff:
			v = p.State[rank(c, net)]
		default:
			var pins []api.Value
			for pin, from := range n.In {
				pins = append(pins, onLine(net, pin, find(from), stuck))
			}
			v = gateOf(n.Kind, pins)
		}
		l[net], done[net] = onLine(net, -1, v, stuck), true
		return l[net]
	}
	for net := range c.Nodes {
		find(net)
	}
	return l
}

// rank returns how many nodes before a node are of its kind.
func rank(c api.Circuit, node int) int {
	i := 0
	for _, n := range c.Nodes[:node] {
		if n.Kind == c.Nodes[node].Kind {
			i++
		}
	}
	return i
}

// shownOf returns what a circuit shows for the values of the nets: its outputs, and then what its Dff nodes read.
func shownOf(c api.Circuit, nets []api.Value, stuck ...api.Fault) []api.Value {
	var l []api.Value
	for _, net := range c.Outs {
		l = append(l, nets[net])
	}
	for i, n := range c.Nodes {
		if n.Kind == api.Dff {
			l = append(l, onLine(i, 0, nets[n.In[0]], stuck))
		}
	}
	return l
}

// resultsOf returns the fault list of each net, and the detected faults.
func resultsOf(c api.Circuit, l []api.Fault, p api.Pattern) (lists [][]int, detected []int) {
	lists = make([][]int, len(c.Nodes))
	good := netsOf(c, p)
	for i, f := range l {
		bad := netsOf(c, p, f)
		for net, v := range good {
			if bad[net] != v {
				lists[net] = append(lists[net], i)
			}
		}
		if !slices.Equal(shownOf(c, good), shownOf(c, bad, f)) {
			detected = append(detected, i)
		}
	}
	return lists, detected
}

// errorOf returns the error of both functions.
func errorOf(c api.Circuit, l []api.Fault, p api.Pattern) api.Errno {
	if len(l) > 65536 || len(c.Nodes)*len(l) > 1048576 {
		return api.ErrLimit
	}
	if _, e := faults.Lines(c); e != api.OK {
		return e
	}
	for _, n := range c.Nodes {
		if n.Kind == api.Tri || n.Kind == api.Bus {
			return api.ErrKind
		}
	}
	for _, f := range l {
		if e := faults.Check(c, f); e != api.OK {
			return e
		}
		if f.Model != api.Stuck {
			return api.ErrKind
		}
	}
	if e := sims.Check(c, p); e != api.OK {
		return e
	}
	for _, v := range slices.Concat(p.In, p.State) {
		if v != 0 && v != 1 {
			return api.ErrArg
		}
	}
	return api.OK
}
