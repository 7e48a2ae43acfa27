package deductives

import (
	"slices"

	"probecard/api"
	"probecard/faults"
	"probecard/logic"
	"probecard/netlists"
	"probecard/sims"
)

// output is the pin of a line that is the output of a node.
const output = -1

// check returns the error of a circuit, a list of its faults and a pattern for it.
func check(c api.Circuit, l []api.Fault, p api.Pattern) api.Errno {
	if len(l) > api.MaxFaults || isLarge(len(c.Nodes), len(l)) {
		return api.ErrLimit
	}
	if _, e := faults.Lines(c); e != api.OK {
		return e
	}
	if len(netlists.Of(c, api.Tri, api.Bus)) > 0 {
		return api.ErrKind
	}
	if e := checkFaults(c, l); e != api.OK {
		return e
	}
	if e := sims.Check(c, p); e != api.OK {
		return e
	}
	if !areKnown(p.In) || !areKnown(p.State) {
		return api.ErrArg
	}
	return api.OK
}

// isLarge reports whether so many nodes times so many faults are too many. It divides, as the product may be too large for an int.
func isLarge(nodes, count int) bool { return count > 0 && nodes > MaxEntries/count }

// checkFaults returns the error of the first fault that is not a stuck line of a plain circuit.
// Only that one is given to faults.Check, which would check the circuit again with each of them.
func checkFaults(c api.Circuit, l []api.Fault) api.Errno {
	i := slices.IndexFunc(l, func(f api.Fault) bool { return !isStuckLine(c, f) })
	if i < 0 {
		return api.OK
	}
	if e := faults.Check(c, l[i]); e != api.OK {
		return e
	}
	return api.ErrKind
}

// isStuckLine reports whether f is a valid fault of the model Stuck.
func isStuckLine(c api.Circuit, f api.Fault) bool {
	node, pin := f.Line.Node, f.Line.Pin
	return f.Model == api.Stuck && f.Value <= api.V1 && f.Other == 0 &&
		node >= 0 && node < len(c.Nodes) && pin >= output && pin < len(c.Nodes[node].In)
}

// areKnown reports whether all values are 0 or 1.
func areKnown(l []api.Value) bool {
	return !slices.ContainsFunc(l, func(v api.Value) bool { return !logic.Known(v) })
}
