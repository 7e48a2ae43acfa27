package events

import (
	"slices"

	"probecard/api"
	"probecard/logic"
)

// wave is the course of one Apply: the nets that have changed so far, and the nodes that wait for evaluation because of them.
type wave struct {
	*Sim
	changed []int
	waiting queue
}

// assign gives each node of l its value.
func (w *wave) assign(l []int, values []api.Value) {
	for i, node := range l {
		w.set(node, values[i])
	}
}

// set gives a net a value. If the net changes, the nodes that read it are to wait.
func (w *wave) set(net int, v api.Value) {
	if w.nets[net] == v {
		return
	}
	w.nets[net] = v
	w.changed = append(w.changed, net)
	for _, node := range w.readers[net] {
		w.waiting.add(w.levels[node], node)
	}
}

// evaluate gives the net of a node the value of the node's function.
func (w *wave) evaluate(node int) {
	n := w.circuit.Nodes[node]
	in := make([]api.Value, len(n.In))
	for pin, net := range n.In {
		in[pin] = w.nets[net]
	}
	w.set(node, logic.Eval(n.Kind, in...))
}

// queue holds the nodes that are waiting, by level. A node is in it once for each of its pins whose net has changed.
type queue map[int][]int

// add lets a node wait.
func (q queue) add(level, node int) { q[level] = append(q[level], node) }

// drain evaluates the waiting nodes by ascending level, each once, and returns their number. Evaluating a node may add nodes of higher levels only.
func (q queue) drain(evaluate func(node int)) int {
	evals := 0
	for level := q.lowest(); len(q) > 0; level++ {
		nodes := q[level]
		delete(q, level)
		slices.Sort(nodes)
		nodes = slices.Compact(nodes)
		for _, node := range nodes {
			evaluate(node)
		}
		evals += len(nodes)
	}
	return evals
}

// lowest returns the lowest level at which nodes are waiting.
func (q queue) lowest() int {
	lowest := api.MaxNodes // above all levels
	for level := range q {
		lowest = min(lowest, level)
	}
	return lowest
}
