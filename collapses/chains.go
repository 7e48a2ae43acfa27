package collapses

import (
	"slices"

	"probecard/api"
	"probecard/netlists"
)

// output is the pin of a line that is the output of a node.
const output = -1

// chains leads from a stuck fault of a circuit to a directly equivalent one nearer to the outputs of the circuit, and on from there.
// There is at most one such fault: for a pin that at the output of its node, for an output that at the sole pin of its net.
// No chain returns to where it was, as there are no loops. So two faults are equivalent exactly if their chains have the same end, which represents their class.
type chains struct {
	api.Circuit
	ends [][2]api.Fault // of the chains from the output of each node, by the value at which it is stuck
}

// chainsOf returns the chains of a valid circuit.
func chainsOf(c api.Circuit) chains {
	x := chains{c, make([][2]api.Fault, len(c.Nodes))}
	pins := solePins(c)
	order, _ := netlists.Order(c)
	for _, node := range slices.Backward(order) { // a chain leads to higher levels, or ends at the pin of a Dff
		pin, isRead := pins[node]
		for v := range api.V1 + 1 {
			end := api.Fault{Line: api.Line{Node: node, Pin: output}, Value: v}
			if isRead {
				end = x.end(api.Fault{Line: pin, Value: v})
			}
			x.ends[node][v] = end
		}
	}
	return x
}

// solePins returns the sole pins of the nets that have one.
func solePins(c api.Circuit) map[int]api.Line {
	pins := make(map[int]api.Line)
	for net, readers := range netlists.Fanout(c) {
		if len(readers) == 1 {
			pins[net] = readers[0]
		}
	}
	for _, net := range c.Outs {
		delete(pins, net)
	}
	return pins
}

// end returns the end of the chain from f. A fault of another model is equivalent only to equal faults.
func (x chains) end(f api.Fault) api.Fault {
	if f.Model != api.Stuck {
		return f
	}
	node := f.Line.Node
	if f.Line.Pin == output {
		return x.ends[node][f.Value]
	}
	if isEquivalent(x.Nodes[node], f.Value) {
		return x.ends[node][carried(x.Nodes[node].Kind, f.Value)]
	}
	return f
}

// preceded returns the end that represents the class preceded by the one that an end represents, if there is such a class.
// A fault at a pin by which its class precedes another one is the end of its chain: no other fault of the class can tell more.
func (x chains) preceded(end api.Fault) (api.Fault, bool) {
	node := end.Line.Node
	kind := x.Nodes[node].Kind
	if end.Model != api.Stuck || end.Line.Pin == output || !isPreceding(kind, end.Value) {
		return api.Fault{}, false
	}
	return x.ends[node][carried(kind, end.Value)], true
}

// isEquivalent reports whether a pin of a node stuck at v is directly equivalent to the output stuck at the value that v becomes there.
func isEquivalent(n api.Node, v api.Value) bool {
	switch n.Kind {
	case api.Buf, api.Not:
		return true
	case api.Bus:
		return len(n.In) == 1
	case api.And, api.Nand:
		return v == api.V0
	case api.Or, api.Nor:
		return v == api.V1
	}
	return false
}

// isPreceding reports whether the class of a pin of a node stuck at v precedes that of the output stuck at the value that v becomes there.
func isPreceding(kind api.Kind, v api.Value) bool {
	switch kind {
	case api.And, api.Nand:
		return v == api.V1
	case api.Or, api.Nor:
		return v == api.V0
	}
	return false
}

// carried returns what v becomes at the output of a node: its complement, if nodes of the kind invert.
func carried(kind api.Kind, v api.Value) api.Value {
	switch kind {
	case api.Not, api.Nand, api.Nor:
		return api.V1 - v
	}
	return v
}
