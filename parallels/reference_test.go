package parallels_test

import (
	"slices"

	"probecard/api"
	"probecard/faults"
	"probecard/logic"
	"probecard/sims"
)

// The chapter's definitions, word by word and without regard to time.

// both returns the value of two nets that are connected: a known value that wins if one of them has it, the other known value if both have it, and otherwise X.
func both(wins, a, b api.Value) api.Value {
	loses := 1 - wins
	switch {
	case a == wins || b == wins:
		return wins
	case a == loses && b == loses:
		return loses
	}
	return api.VX
}

// lineChange tells what a fault makes of the value v of the line at a pin, or at the output of a node (Pin -1).
type lineChange func(node, pin int, v api.Value) api.Value

// noChange is that of a cycle without fault.
func noChange(_, _ int, v api.Value) api.Value { return v }

// netsOf returns the values of all nets of a valid circuit without memories, each from those that its node reads.
func netsOf(c api.Circuit, p api.Pattern, change lineChange) []api.Value {
	l := make([]api.Value, len(c.Nodes))
	done := make([]bool, len(c.Nodes))
	var find func(net int) api.Value
	find = func(net int) api.Value {
		if done[net] {
			return l[net]
		}
		var v api.Value
		switch n := c.Nodes[net]; n.Kind {
		case api.Input:
			v = p.In[rank(c, net)]
		case api.Dff:
			v = p.State[rank(c, net)]
		default:
			var pins []api.Value
			for pin, from := range n.In {
				pins = append(pins, change(net, pin, find(from)))
			}
			v = logic.Eval(n.Kind, pins...)
		}
		l[net], done[net] = change(net, -1, v), true
		return l[net]
	}
	for net := range c.Nodes {
		find(net)
	}
	return l
}

// rank returns how many nodes before a node are of its kind.
func rank(c api.Circuit, node int) int {
	i := 0
	for _, n := range c.Nodes[:node] {
		if n.Kind == c.Nodes[node].Kind {
			i++
		}
	}
	return i
}

// responseOf returns the response for the values of the nets.
func responseOf(c api.Circuit, nets []api.Value, change lineChange) api.Response {
	var r api.Response
	for _, net := range c.Outs {
		r.Out = append(r.Out, nets[net])
	}
	for i, n := range c.Nodes {
		if n.Kind != api.Dff {
			continue
		}
		v := change(i, 0, nets[n.In[0]])
		if v == api.VZ {
			v = api.VX
		}
		r.Next = append(r.Next, v)
	}
	return r
}

// badOf returns the response with a fault, for the values of all nets without it.
func badOf(c api.Circuit, f api.Fault, p api.Pattern, good []api.Value) api.Response {
	change := func(node, pin int, v api.Value) api.Value {
		switch {
		case f.Model == api.Stuck && node == f.Line.Node && pin == f.Line.Pin:
			return f.Value
		case f.Model == api.Wired && pin == -1 && (node == f.Line.Node || node == f.Other):
			return both(f.Value, good[f.Line.Node], good[f.Other])
		case f.Model == api.Strong && pin == -1 && node == f.Line.Node:
			return good[f.Other]
		}
		return v
	}
	return responseOf(c, netsOf(c, p, change), change)
}

// contradict reports whether one of the values is 0 and the other is 1.
func contradict(a, b api.Value) bool { return a <= api.V1 && b <= api.V1 && a != b }

// isDetected reports whether two responses contradict each other at some position.
func isDetected(good, bad api.Response) bool {
	for i, v := range slices.Concat(good.Out, good.Next) {
		if contradict(v, slices.Concat(bad.Out, bad.Next)[i]) {
			return true
		}
	}
	return false
}

// detections tells for each pattern, and for each fault, whether the pattern detects it.
func detections(c api.Circuit, l []api.Fault, tests []api.Pattern) [][]bool {
	var out [][]bool
	for _, p := range tests {
		nets := netsOf(c, p, noChange)
		good := responseOf(c, nets, noChange)
		known := map[api.Fault]bool{}
		var row []bool
		for _, f := range l {
			is, ok := known[f]
			if !ok {
				is = isDetected(good, badOf(c, f, p, nets))
				known[f] = is
			}
			row = append(row, is)
		}
		out = append(out, row)
	}
	return out
}

// tableOf returns the detection table: a row for each fault, with bit j of word i for the test 64 i + j.
func tableOf(c api.Circuit, l []api.Fault, tests []api.Pattern) [][]uint64 {
	table := make([][]uint64, len(l))
	for k := 0; k < len(tests); k += 64 {
		for i := range table {
			table[i] = append(table[i], 0)
		}
	}
	for k, row := range detections(c, l, tests) {
		for i, is := range row {
			if is {
				table[i][k/64] |= 1 << (k % 64)
			}
		}
	}
	return table
}

// errorOf returns the error of Table. Faults has one pattern, and Patterns has one fault.
func errorOf(c api.Circuit, l []api.Fault, tests []api.Pattern) api.Errno {
	if len(l) > api.MaxFaults || len(tests) > api.MaxTests {
		return api.ErrLimit
	}
	if _, e := faults.Lines(c); e != api.OK {
		return e
	}
	for _, f := range l {
		if e := faults.Check(c, f); e != api.OK {
			return e
		}
		if f.Model == api.Slow {
			return api.ErrKind
		}
	}
	for _, p := range tests {
		if e := sims.Check(c, p); e != api.OK {
			return e
		}
	}
	return api.OK
}
