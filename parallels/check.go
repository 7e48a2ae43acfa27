package parallels

import (
	"slices"

	"probecard/api"
	"probecard/faults"
	"probecard/netlists"
	"probecard/sims"
)

// check returns the error of a circuit, a list of its faults and a list of its patterns.
func check(c api.Circuit, l []api.Fault, tests []api.Pattern) api.Errno {
	if len(l) > api.MaxFaults || len(tests) > api.MaxTests {
		return api.ErrLimit
	}
	if _, e := faults.Lines(c); e != api.OK {
		return e
	}
	if e := checkFaults(c, l); e != api.OK {
		return e
	}
	return checkTests(c, tests)
}

// checkFaults returns the error of the first fault that is invalid or a slow line.
// It leaves the sound ones to themselves, as faults.Check would check the circuit again with each of them.
func checkFaults(c api.Circuit, l []api.Fault) api.Errno {
	sound := soundness(c, l)
	for i, f := range l {
		if !sound[i] {
			if e := faults.Check(c, f); e != api.OK {
				return e
			}
		}
		if f.Model == api.Slow {
			return api.ErrKind
		}
	}
	return api.OK
}

// soundness reports of each fault whether it is one of a valid circuit without memories.
func soundness(c api.Circuit, l []api.Fault) []bool {
	sound := make([]bool, len(l))
	var bridges []int
	for i, f := range l {
		sound[i] = isSoundLine(c, f)
		if isPair(c, f) {
			bridges = append(bridges, i)
		}
	}
	order, _ := netlists.Order(c)
	for block := range slices.Chunk(bridges, lanes) {
		var a, b []int
		for _, i := range block {
			a, b = append(a, l[i].Line.Node), append(b, l[i].Other)
		}
		related := reached(c, order, a, b) | reached(c, order, b, a)
		for lane := range len(block) {
			sound[block[lane]] = related>>lane&1 == 0
		}
	}
	return sound
}

// isSoundLine reports whether f is a stuck or slow line of c.
func isSoundLine(c api.Circuit, f api.Fault) bool {
	return f.Model <= api.Slow && f.Value <= api.V1 && f.Other == 0 && isNode(c, f.Line.Node) &&
		f.Line.Pin >= output && f.Line.Pin < len(c.Nodes[f.Line.Node].In)
}

// isPair reports whether f is a bridge, if neither of its nets depends on the other.
func isPair(c api.Circuit, f api.Fault) bool {
	a, b := f.Line.Node, f.Other
	if f.Line.Pin != output || !isNet(c, a) || !isNet(c, b) {
		return false
	}
	return f.Model == api.Wired && f.Value <= api.V1 && a < b || f.Model == api.Strong && f.Value == api.V0 && a != b
}

// isNode reports whether i is the index of a node.
func isNode(c api.Circuit, i int) bool { return i >= 0 && i < len(c.Nodes) }

// isNet reports whether i is a net that can be bridged.
func isNet(c api.Circuit, i int) bool { return isNode(c, i) && c.Nodes[i].Kind != api.Tri }

// reached returns the lanes in which the net of b depends on that of a. There are at most 64 of them.
func reached(c api.Circuit, order, a, b []int) uint64 {
	marks := make([]uint64, len(c.Nodes))
	for lane := range len(a) {
		marks[a[lane]] |= 1 << lane
	}
	for _, i := range order {
		if n := c.Nodes[i]; n.Kind != api.Dff {
			for _, net := range n.In {
				marks[i] |= marks[net]
			}
		}
	}
	var found uint64
	for lane := range len(b) {
		found |= marks[b[lane]] & (1 << lane)
	}
	return found
}

// checkTests returns the error of the first pattern that does not fit to the circuit.
// It leaves the others to themselves, as sims.Check would check the circuit again with each of them.
func checkTests(c api.Circuit, tests []api.Pattern) api.Errno {
	blank := sims.Blank(c)
	for _, p := range tests {
		if !fit(p.In, blank.In) || !fit(p.State, blank.State) {
			return sims.Check(c, p)
		}
	}
	return api.OK
}

// fit reports whether values are valid, and as many as others.
func fit(l, others []api.Value) bool {
	return len(l) == len(others) && !slices.ContainsFunc(l, func(v api.Value) bool { return v > api.VZ })
}
