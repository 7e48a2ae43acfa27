package inject

import (
	"slices"

	"probecard/api"
	"probecard/logic"
	"probecard/netlists"
	"probecard/sims"
)

// replacement returns the value that a line has instead of v.
type replacement func(l api.Line, v api.Value) api.Value

// simulation is the simulation of a cycle in which the values of lines are replaced.
type simulation struct {
	circuit api.Circuit
	nets    []api.Value
	replace replacement
}

// simulate gives the nets, which have their values without fault, those with the fault, and returns the response.
func simulate(c api.Circuit, nets []api.Value, replace replacement) api.Response {
	s := simulation{c, nets, replace}
	each(c, s.evaluate)
	return s.response()
}

// each calls visit for every node of a valid circuit, in the order of evaluation.
func each(c api.Circuit, visit func(node int)) {
	order, _ := netlists.Order(c)
	for _, node := range order {
		visit(node)
	}
}

// evaluate gives the net of a node its value. The nets of Input and Dff nodes have that of the pattern already.
func (s simulation) evaluate(node int) {
	v := s.nets[node]
	if kind := s.circuit.Nodes[node].Kind; netlists.Comb(kind) {
		v = logic.Eval(kind, s.pins(node)...)
	}
	s.nets[node] = s.replace(outputOf(node), v)
}

// pins returns the values that a node reads.
func (s simulation) pins(node int) []api.Value {
	in := s.circuit.Nodes[node].In
	l := make([]api.Value, len(in))
	for pin, net := range in {
		l[pin] = s.replace(api.Line{Node: node, Pin: pin}, s.nets[net])
	}
	return l
}

// response returns what the circuit shows. sims.Observe knows the nets, but not the faults at the pins of Dff nodes.
func (s simulation) response() api.Response {
	r := sims.Observe(s.circuit, s.nets)
	for i, dff := range netlists.States(s.circuit) {
		r.Next[i] = logic.Read(s.pins(dff)[0])
	}
	return r
}

// fixed returns the replacement by a fault of the model Stuck, Wired or Strong, given the values of the nets without fault.
func fixed(f api.Fault, good []api.Value) replacement {
	switch f.Model {
	case api.Wired:
		v := logic.Eval(winner(f.Value), good[f.Line.Node], good[f.Other])
		return set(v, f.Line, outputOf(f.Other))
	case api.Strong:
		return set(good[f.Other], f.Line)
	}
	return set(f.Value, f.Line)
}

// set returns the replacement of the values of some lines by v.
func set(v api.Value, lines ...api.Line) replacement {
	return func(l api.Line, old api.Value) api.Value {
		if slices.Contains(lines, l) {
			return v
		}
		return old
	}
}

// late returns the replacement by a slow line, given the values of the nets in the first cycle.
func late(c api.Circuit, f api.Fault, first []api.Value) replacement {
	old := first[netOf(c, f.Line)]
	return func(l api.Line, v api.Value) api.Value {
		if l == f.Line {
			return logic.Eval(winner(logic.Not(f.Value)), old, v)
		}
		return v
	}
}

// winner returns the kind of a gate of two inputs whose output is v if one of them is.
func winner(v api.Value) api.Kind {
	if v == api.V0 {
		return api.And
	}
	return api.Or
}

// outputOf returns the line that is the output of a node.
func outputOf(node int) api.Line { return api.Line{Node: node, Pin: output} }

// netOf returns the net whose value a line has.
func netOf(c api.Circuit, l api.Line) int {
	if l.Pin == output {
		return l.Node
	}
	return c.Nodes[l.Node].In[l.Pin]
}
