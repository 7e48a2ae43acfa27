package rewrites

import (
	"slices"
	"strconv"

	"probecard/api"
	"probecard/cones"
	"probecard/netlists"
)

// buffers returns a valid circuit after the step Buffers.
func buffers(c api.Circuit) Result {
	r, source := unchanged(c), sources(c)
	follow(&r.Circuit, func(net int) int { return source[net] }, func(net int) int {
		// An output shows Z, which the net of a Buf or a Not never has.
		if canFloat(c.Nodes[source[net]].Kind) {
			return net
		}
		return source[net]
	})
	return r
}

// canFloat reports whether the net of a node of a kind may have the value Z.
func canFloat(kind api.Kind) bool {
	return !netlists.Comb(kind) || kind == api.Tri || kind == api.Bus
}

// sources returns the source of each net of a valid circuit.
func sources(c api.Circuit) []int {
	source := itself(len(c.Nodes))
	for _, i := range order(c) {
		n := c.Nodes[i]
		if n.Kind != api.Buf && n.Kind != api.Not {
			continue
		}
		s := source[n.In[0]]
		switch {
		case n.Kind == api.Buf:
			source[i] = s
		case c.Nodes[s].Kind == api.Not:
			source[i] = source[c.Nodes[s].In[0]]
		}
	}
	return source
}

// follow changes the nets that the pins of nodes and the ports of memories name, and those that are outputs.
func follow(c *api.Circuit, pin, out func(net int) int) {
	change := func(l []int, to func(net int) int) {
		for i, net := range l {
			l[i] = to(net)
		}
	}
	for _, n := range c.Nodes {
		change(n.In, pin)
	}
	for i, m := range c.Mems {
		change(m.Addr, pin)
		change(m.Data, pin)
		c.Mems[i].Write = pin(m.Write)
	}
	change(c.Outs, out)
}

// merge returns a valid circuit after the step Merge.
func merge(c api.Circuit) Result {
	first := itself(len(c.Nodes))
	of := func(net int) int { return first[net] }
	found := map[string]int{} // the first nodes, by what alike nodes have in common
	for _, i := range order(c) {
		n := c.Nodes[i]
		if !netlists.Comb(n.Kind) && n.Kind != api.Mem {
			continue
		}
		key := likeness(n, of)
		if k, is := found[key]; is {
			first[i] = k
		} else {
			found[key] = i
		}
	}
	r := Result{Circuit: netlists.Copy(c), Map: first}
	follow(&r.Circuit, of, of)
	return r
}

// likeness returns a text that two combinational or Mem nodes have in common if and only if they are alike. The function first returns the first node that is like that of a net.
func likeness(n api.Node, first func(net int) int) string {
	nets := make([]int, len(n.In))
	for i, net := range n.In {
		nets[i] = first(net)
	}
	if isSymmetric(n.Kind) {
		slices.Sort(nets)
	}
	var text []byte
	for _, k := range append([]int{int(n.Kind), n.Mem, n.Bit}, nets...) {
		text = append(strconv.AppendInt(text, int64(k), 10), ' ')
	}
	return string(text)
}

// isSymmetric reports whether the order of the pins of a kind does not matter.
func isSymmetric(kind api.Kind) bool {
	switch kind {
	case api.And, api.Nand, api.Or, api.Nor, api.Xor, api.Xnor, api.Bus:
		return true
	}
	return false
}

// sweep returns a valid circuit after the step Sweep.
func sweep(c api.Circuit) Result {
	to := remaining(c)
	of := func(net int) int { return to[net] }
	r := Result{Circuit: netlists.Copy(c), Map: to}
	k := 0
	for i := range c.Nodes {
		if to[i] >= 0 {
			r.Circuit.Nodes[k], r.Circuit.Names[k] = r.Circuit.Nodes[i], r.Circuit.Names[i]
			k++
		}
	}
	r.Circuit.Nodes, r.Circuit.Names = slices.Clip(r.Circuit.Nodes[:k]), slices.Clip(r.Circuit.Names[:k])
	follow(&r.Circuit, of, of)
	return r
}

// remaining returns the index of each node of a valid circuit among those that Sweep leaves, or -1.
func remaining(c api.Circuit) []int {
	seen := make([]bool, len(c.Nodes))
	cone, _ := cones.Fanin(c, cones.Points(c)...)
	for _, i := range cone {
		seen[i] = true
	}
	to, k := make([]int, len(c.Nodes)), 0
	for i, n := range c.Nodes {
		to[i] = -1
		if seen[i] || !netlists.Comb(n.Kind) {
			to[i] = k
			k++
		}
	}
	return to
}
