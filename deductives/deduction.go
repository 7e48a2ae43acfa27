package deductives

import (
	"maps"
	"slices"

	"probecard/api"
	"probecard/logic"
	"probecard/netlists"
	"probecard/sims"
)

// list is a fault list: a set of indices of faults.
type list map[int]bool

// indices returns the elements of a list, ascending.
func (x list) indices() []int { return slices.Clip(slices.Sorted(maps.Keys(x))) }

// deduction deduces the fault list of each net of a plain circuit from those of the nets that its node reads.
type deduction struct {
	circuit api.Circuit
	faults  []api.Fault
	local   [][]int     // the indices of the faults at the output and the pins of each node
	good    []api.Value // the nets without fault, all of them known
	lists   []list      // the fault list of each net
}

// deduce returns the deduction for stuck faults and a full pattern.
func deduce(c api.Circuit, l []api.Fault, p api.Pattern) *deduction {
	d := &deduction{circuit: c, faults: l, local: make([][]int, len(c.Nodes)), lists: make([]list, len(c.Nodes))}
	for i, f := range l {
		d.local[f.Line.Node] = append(d.local[f.Line.Node], i)
	}
	_, d.good, _ = sims.Run(c, p) // a valid circuit and a valid pattern for it
	order, _ := netlists.Order(c)
	for _, node := range order {
		d.lists[node] = d.listOf(node)
	}
	return d
}

// listOf returns the fault list of the net of a node, if those of the nets that it reads are known.
func (d *deduction) listOf(node int) list {
	value := d.faulty(node)
	found := list{}
	for i := range d.candidates(node) {
		if value(i) != d.good[node] {
			found[i] = true
		}
	}
	return found
}

// candidates returns the faults that can change the net of a node: those of the node, and those that change what it reads.
func (d *deduction) candidates(node int) list {
	merged := list{}
	for _, i := range d.local[node] {
		merged[i] = true
	}
	if n := d.circuit.Nodes[node]; netlists.Comb(n.Kind) {
		for _, net := range n.In {
			maps.Copy(merged, d.lists[net])
		}
	}
	return merged
}

// faulty returns a function that computes the value of the net of a node with a fault.
func (d *deduction) faulty(node int) func(i int) api.Value {
	n := d.circuit.Nodes[node]
	pins := make([]api.Value, len(n.In))
	return func(i int) api.Value {
		line, stuck := d.faults[i].Line, d.faults[i].Value
		switch {
		case line == api.Line{Node: node, Pin: output}:
			return stuck
		case !netlists.Comb(n.Kind):
			return d.good[node] // a Dff shows what it reads in the next cycle only
		}
		for pin, net := range n.In {
			pins[pin] = d.value(net, i)
		}
		if line.Node == node {
			pins[line.Pin] = stuck
		}
		return logic.Eval(n.Kind, pins...)
	}
}

// value returns the value of a net with a fault, if its fault list is known.
func (d *deduction) value(net, i int) api.Value {
	if d.lists[net][i] {
		return logic.Not(d.good[net])
	}
	return d.good[net]
}

// detected returns the faults that change a net that is shown, or what a Dff reads.
func (d *deduction) detected() list {
	found := list{}
	for net := range d.shown() {
		maps.Copy(found, d.lists[net])
	}
	for _, dff := range netlists.States(d.circuit) {
		data := d.good[d.data(dff)]
		for _, i := range d.local[dff] {
			if f := d.faults[i]; f.Line.Pin != output && f.Value != data {
				found[i] = true
			}
		}
	}
	return found
}

// shown returns the nets that are primary outputs or the data of Dff nodes, each once, as there may be many outputs of one net.
func (d *deduction) shown() map[int]bool {
	nets := make(map[int]bool)
	for _, net := range d.circuit.Outs {
		nets[net] = true
	}
	for _, dff := range netlists.States(d.circuit) {
		nets[d.data(dff)] = true
	}
	return nets
}

// data returns the net that a Dff reads.
func (d *deduction) data(dff int) int { return d.circuit.Nodes[dff].In[0] }
