package cones_test

import (
	"slices"

	"probecard/api"
)

// The definitions of the chapter, word by word and without regard to time.

// combinational reports whether node i of c is combinational.
func combinational(c api.Circuit, i int) bool {
	return c.Nodes[i].Kind >= api.Zero && c.Nodes[i].Kind <= api.Bus
}

// isPoint reports whether a net is an observation point of any circuit.
func isPoint(c api.Circuit, net int) bool {
	reads := func(n api.Node) bool { return n.Kind == api.Dff && slices.Contains(n.In, net) }
	ports := func(m api.Memory) bool {
		return m.Write == net || slices.Contains(m.Addr, net) || slices.Contains(m.Data, net)
	}
	return slices.Contains(c.Outs, net) || slices.ContainsFunc(c.Nodes, reads) || slices.ContainsFunc(c.Mems, ports)
}

// dependence tells whether net i depends on net k.
func dependence(c api.Circuit) [][]bool {
	depends := make([][]bool, len(c.Nodes))
	for i := range depends {
		depends[i] = make([]bool, len(c.Nodes))
	}
	for changed := true; changed; {
		changed = false
		for i, n := range c.Nodes {
			for k := range c.Nodes {
				if combinational(c, i) && !depends[i][k] && slices.ContainsFunc(n.In, func(net int) bool { return net == k || depends[net][k] }) {
					depends[i][k], changed = true, true
				}
			}
		}
	}
	return depends
}

// faninOf returns the fanin cone of the nodes l.
func faninOf(c api.Circuit, depends [][]bool, l ...int) []int {
	return filter(len(c.Nodes), func(i int) bool {
		return slices.ContainsFunc(l, func(n int) bool { return i == n || depends[n][i] })
	})
}

// fanoutOf returns the fanout cone of the nodes l.
func fanoutOf(c api.Circuit, depends [][]bool, l ...int) []int {
	return filter(len(c.Nodes), func(i int) bool {
		return slices.ContainsFunc(l, func(n int) bool { return i == n || depends[i][n] })
	})
}

// pathsOf returns all paths from a node.
func pathsOf(c api.Circuit, n int) [][]int {
	var paths [][]int
	var extend func(l []int)
	extend = func(l []int) {
		last := l[len(l)-1]
		if isPoint(c, last) {
			paths = append(paths, slices.Clone(l))
		}
		for i, node := range c.Nodes {
			if combinational(c, i) && slices.Contains(node.In, last) {
				extend(append(slices.Clone(l), i))
			}
		}
	}
	extend([]int{n})
	return paths
}

// dominatorsOf returns the nodes on all paths from a node, in the order of the first path.
func dominatorsOf(c api.Circuit, n int) []int {
	paths := pathsOf(c, n)
	if len(paths) == 0 {
		return nil
	}
	return slices.DeleteFunc(slices.Clone(paths[0]), func(i int) bool {
		return i == n || slices.ContainsFunc(paths, func(path []int) bool { return !slices.Contains(path, i) })
	})
}

// hasPath reports whether a node has a path that avoids the node without.
func hasPath(c api.Circuit, n, without int) bool {
	seen := make([]bool, len(c.Nodes))
	seen[n] = true
	wait := []int{n}
	for len(wait) > 0 {
		last := wait[0]
		wait = wait[1:]
		if isPoint(c, last) {
			return true
		}
		for i, node := range c.Nodes {
			if !seen[i] && i != without && combinational(c, i) && slices.Contains(node.In, last) {
				seen[i] = true
				wait = append(wait, i)
			}
		}
	}
	return false
}

// readersOf returns the combinational nodes that read the net of a node, once for each pin.
func readersOf(c api.Circuit, n int) []int {
	var l []int
	for i, node := range c.Nodes {
		for _, net := range node.In {
			if net == n && combinational(c, i) {
				l = append(l, i)
			}
		}
	}
	return l
}

// isStem reports whether a node is a stem.
func isStem(c api.Circuit, n int) bool { return isPoint(c, n) || len(readersOf(c, n)) != 1 }

// regionsOf returns the stem of each node, going from it to its only reader, again and again.
func regionsOf(c api.Circuit) []int {
	l := make([]int, len(c.Nodes))
	for i := range l {
		stem := i
		for !isStem(c, stem) {
			stem = readersOf(c, stem)[0]
		}
		l[i] = stem
	}
	return l
}

// meetsOf returns the nodes at which the fanout of a node reconverges.
func meetsOf(c api.Circuit, depends [][]bool, n int) []int {
	cone := fanoutOf(c, depends, n)
	return filter(len(c.Nodes), func(i int) bool {
		pins := filter(len(c.Nodes[i].In), func(pin int) bool { return slices.Contains(cone, c.Nodes[i].In[pin]) })
		return combinational(c, i) && len(pins) >= 2
	})
}
