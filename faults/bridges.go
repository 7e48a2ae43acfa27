package faults

import (
	"iter"
	"slices"

	"probecard/api"
	"probecard/netlists"
)

// checkBridge returns the error of a fault of the model Wired or Strong, whose line and value are valid for some model.
func checkBridge(c api.Circuit, f api.Fault) api.Errno {
	a, b := f.Line.Node, f.Other
	switch {
	case f.Line.Pin != output || !isNode(c, b) || a == b:
		return api.ErrArg
	case f.Model == api.Wired && a > b || f.Value > highest(f.Model):
		return api.ErrArg
	case isTri(c, a) || isTri(c, b):
		return api.ErrKind
	case isRelated(c, a, b):
		return api.ErrLoop
	}
	return api.OK
}

// highest returns the highest value of the bridges of a model.
func highest(m api.Model) api.Value {
	if m == api.Strong {
		return api.V0
	}
	return api.V1
}

// isTri reports whether the node i of c is a Tri.
func isTri(c api.Circuit, i int) bool { return c.Nodes[i].Kind == api.Tri }

// bridges yields the faults of the model Wired or Strong of a valid circuit, in order.
func bridges(c api.Circuit, m api.Model) iter.Seq[api.Fault] {
	return func(yield func(f api.Fault) bool) {
		for a, b := range pairs(c) {
			if m == api.Wired && a > b {
				continue
			}
			for v := range highest(m) + 1 {
				if !yield(api.Fault{Model: m, Line: api.Line{Node: a, Pin: output}, Value: v, Other: b}) {
					return
				}
			}
		}
	}
}

// lanes is the number of nets whose relatives are found at once: the bits of a word.
const lanes = 64

// pairs yields all nets a and b of a valid circuit between which there can be a bridge, in both orders, ascending.
func pairs(c api.Circuit) iter.Seq2[int, int] {
	return func(yield func(a, b int) bool) {
		order, _ := netlists.Order(c)
		var related []uint64
		for a := range c.Nodes {
			lane := a % lanes
			if lane == 0 {
				related = relatives(c, order, a, min(a+lanes, len(c.Nodes)))
			}
			if isTri(c, a) {
				continue
			}
			for b := range c.Nodes {
				if related[b]>>lane&1 == 0 && !isTri(c, b) && !yield(a, b) {
					return
				}
			}
		}
	}
}

// isRelated reports whether one of two nets of a valid circuit depends on the other.
func isRelated(c api.Circuit, a, b int) bool {
	order, _ := netlists.Order(c)
	return relatives(c, order, a, a+1)[b] != 0
}

// relatives tells of each net, in bit k, whether it depends on the net from+k or that net depends on it.
// There are at most lanes nets from the first one to the one before the end.
func relatives(c api.Circuit, order []int, from, end int) []uint64 {
	uses, used := make([]uint64, len(order)), make([]uint64, len(order))
	for k := range end - from {
		uses[from+k], used[from+k] = 1<<k, 1<<k
	}
	for _, i := range order {
		for _, net := range reads(c.Nodes[i]) {
			uses[i] |= uses[net]
		}
	}
	for _, i := range slices.Backward(order) {
		for _, net := range reads(c.Nodes[i]) {
			used[net] |= used[i]
		}
	}
	for i, word := range used {
		uses[i] |= word
	}
	return uses
}

// reads returns the nets that the net of a node depends on directly.
func reads(n api.Node) []int {
	if n.Kind == api.Dff {
		return nil
	}
	return n.In
}
