package collapses_test

import (
	"slices"

	"probecard/api"
	"probecard/faults"
)

// The chapter's definitions, word by word and without regard to time.

// loadsOf returns how many elements of Outs are a net, and the fanin pins that read it.
func loadsOf(c api.Circuit, net int) (int, []api.Line) {
	var pins []api.Line
	for i, n := range c.Nodes {
		for pin, from := range n.In {
			if from == net {
				pins = append(pins, api.Line{Node: i, Pin: pin})
			}
		}
	}
	outs := 0
	for _, out := range c.Outs {
		if out == net {
			outs++
		}
	}
	return outs, pins
}

// solePinOf returns the sole pin of a net, or false if it has none.
func solePinOf(c api.Circuit, net int) (api.Line, bool) {
	outs, pins := loadsOf(c, net)
	if outs+len(pins) == 1 && len(pins) == 1 {
		return pins[0], true
	}
	return api.Line{}, false
}

// stuck returns a stuck fault.
func stuck(node, pin int, v api.Value) api.Fault {
	return api.Fault{Model: api.Stuck, Line: api.Line{Node: node, Pin: pin}, Value: v}
}

// directRows returns the values at which a pin of a node and its output are stuck in directly equivalent faults.
func directRows(n api.Node) [][2]api.Value {
	switch {
	case n.Kind == api.Buf, n.Kind == api.Bus && len(n.In) == 1:
		return [][2]api.Value{{0, 0}, {1, 1}}
	case n.Kind == api.Not:
		return [][2]api.Value{{0, 1}, {1, 0}}
	case n.Kind == api.And:
		return [][2]api.Value{{0, 0}}
	case n.Kind == api.Nand:
		return [][2]api.Value{{0, 1}}
	case n.Kind == api.Or:
		return [][2]api.Value{{1, 1}}
	case n.Kind == api.Nor:
		return [][2]api.Value{{1, 0}}
	}
	return nil
}

// directOf returns all pairs of directly equivalent stuck faults of a valid circuit.
func directOf(c api.Circuit) [][2]api.Fault {
	var l [][2]api.Fault
	for i, n := range c.Nodes {
		for pin := range n.In {
			for _, row := range directRows(n) {
				l = append(l, [2]api.Fault{stuck(i, pin, row[0]), stuck(i, -1, row[1])})
			}
		}
		if pin, ok := solePinOf(c, i); ok {
			for v := range api.V1 + 1 {
				l = append(l, [2]api.Fault{stuck(i, -1, v), {Line: pin, Value: v}})
			}
		}
	}
	return l
}

// labelsOf returns numbers for all stuck faults of a valid circuit that are equal exactly for equivalent ones.
func labelsOf(c api.Circuit) map[api.Fault]int {
	labels := map[api.Fault]int{}
	for i, f := range all(c, api.Stuck) {
		labels[f] = i
	}
	direct := directOf(c)
	for changed := true; changed; {
		changed = false
		for _, x := range direct {
			a, b := labels[x[0]], labels[x[1]]
			if a != b {
				labels[x[0]], labels[x[1]] = min(a, b), min(a, b)
				changed = true
			}
		}
	}
	return labels
}

// isEquivalent reports whether two faults are equivalent.
func isEquivalent(labels map[api.Fault]int, a, b api.Fault) bool {
	return a == b || a.Model == api.Stuck && b.Model == api.Stuck && labels[a] == labels[b]
}

// classesOf returns the classes of a list.
func classesOf(c api.Circuit, l []api.Fault) [][]int {
	labels := labelsOf(c)
	var classes [][]int
	for i, f := range l {
		k := slices.IndexFunc(classes, func(class []int) bool { return isEquivalent(labels, l[class[0]], f) })
		if k < 0 {
			k = len(classes)
			classes = append(classes, nil)
		}
		classes[k] = append(classes[k], i)
	}
	return classes
}

// repsOf returns the fault with the first index of each class.
func repsOf(c api.Circuit, l []api.Fault) []api.Fault {
	var reps []api.Fault
	for _, class := range classesOf(c, l) {
		reps = append(reps, l[class[0]])
	}
	return reps
}

// precedingRows returns the values at which a pin of a node and its output are stuck, if the class of the first precedes that of the second.
func precedingRow(kind api.Kind) ([2]api.Value, bool) {
	switch kind {
	case api.And:
		return [2]api.Value{1, 1}, true
	case api.Nand:
		return [2]api.Value{1, 0}, true
	case api.Or:
		return [2]api.Value{0, 0}, true
	case api.Nor:
		return [2]api.Value{0, 1}, true
	}
	return [2]api.Value{}, false
}

// precedences returns for each pin of a node all pairs of classes by which the words of the chapter let the first precede the second, also those of equal classes and repeated ones.
func precedences(c api.Circuit, l []api.Fault) [][2]int {
	labels, classes := labelsOf(c), classesOf(c, l)
	with := func(f api.Fault) []int { // the classes that contain a fault of the list that is equivalent to f
		var out []int
		for k, class := range classes {
			if slices.ContainsFunc(class, func(i int) bool { return isEquivalent(labels, l[i], f) }) {
				out = append(out, k)
			}
		}
		return out
	}
	var out [][2]int
	for i, n := range c.Nodes {
		row, ok := precedingRow(n.Kind)
		if !ok {
			continue
		}
		for pin := range n.In {
			for _, a := range with(stuck(i, pin, row[0])) {
				for _, b := range with(stuck(i, -1, row[1])) {
					out = append(out, [2]int{a, b})
				}
			}
		}
	}
	return out
}

// dominancesOf returns all pairs of a class and another one that it precedes.
func dominancesOf(c api.Circuit, l []api.Fault) [][2]int {
	var out [][2]int
	for _, x := range precedences(c, l) {
		if x[0] != x[1] && !slices.Contains(out, x) {
			out = append(out, x)
		}
	}
	slices.SortFunc(out, func(a, b [2]int) int { return slices.Compare(a[:], b[:]) })
	return out
}

// coreOf returns the first index of each class that no class precedes.
func coreOf(c api.Circuit, l []api.Fault) []int {
	var out []int
	dominances := dominancesOf(c, l)
	for k, class := range classesOf(c, l) {
		if !slices.ContainsFunc(dominances, func(x [2]int) bool { return x[1] == k }) {
			out = append(out, class[0])
		}
	}
	return out
}

// expandOf returns the indices of all faults whose detection follows from that of those with valid indices.
func expandOf(c api.Circuit, l []api.Fault, detected []int) []int {
	classes, dominances := classesOf(c, l), dominancesOf(c, l)
	reached := map[int]bool{}
	for k, class := range classes {
		for _, i := range detected {
			if slices.Contains(class, i) {
				reached[k] = true
			}
		}
	}
	for range classes {
		for _, x := range dominances {
			if reached[x[0]] {
				reached[x[1]] = true
			}
		}
	}
	var out []int
	for k, class := range classes {
		if reached[k] {
			out = append(out, class...)
		}
	}
	slices.Sort(out)
	return out
}

// errorOf returns the error of all functions apart from Expand.
func errorOf(c api.Circuit, l []api.Fault) api.Errno {
	if len(l) > api.MaxFaults {
		return api.ErrLimit
	}
	if _, e := faults.Lines(c); e != api.OK {
		return e
	}
	for _, f := range l {
		if e := faults.Check(c, f); e != api.OK {
			return e
		}
	}
	return api.OK
}

// expandError returns the error of Expand.
func expandError(c api.Circuit, l []api.Fault, detected []int) api.Errno {
	if e := errorOf(c, l); e != api.OK {
		return e
	}
	for _, i := range detected {
		if i < 0 || i >= len(l) {
			return api.ErrArg
		}
	}
	return api.OK
}
