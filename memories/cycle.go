package memories

import (
	"probecard/api"
	"probecard/logic"
	"probecard/netlists"
	"probecard/sims"
)

// machine is a circuit in one cycle.
type machine struct {
	api.Circuit
	state State
	nets  []api.Value
}

// Cycle simulates one cycle: it returns the next state, the response and the values of all nets.
func Cycle(c api.Circuit, s State, in []api.Value) (State, api.Response, []api.Value, api.Errno) {
	order, e := netlists.Order(c)
	if e == api.OK {
		e = checkCycle(c, s, in)
	}
	if e != api.OK {
		return State{}, api.Response{}, nil, e
	}
	m := machine{c, s, make([]api.Value, len(order))}
	m.assign(netlists.Inputs(c), in)
	m.assign(netlists.States(c), s.Dff)
	m.evaluate(order)
	r := sims.Observe(c, m.nets)
	return m.next(r.Next), r, m.nets, api.OK
}

// assign gives each node of l its value.
func (m machine) assign(l []int, values []api.Value) {
	for i, node := range l {
		m.nets[node] = values[i]
	}
}

// evaluate gives all other nodes their values.
func (m machine) evaluate(order []int) {
	for _, i := range order {
		switch n := m.Nodes[i]; {
		case n.Kind == api.Mem:
			m.nets[i] = m.state.Read[n.Mem][n.Bit]
		case netlists.Comb(n.Kind):
			m.nets[i] = logic.Eval(n.Kind, m.values(n.In)...)
		}
	}
}

// values returns the values of some nets.
func (m machine) values(nets []int) []api.Value {
	l := make([]api.Value, len(nets))
	for i, net := range nets {
		l[i] = m.nets[net]
	}
	return l
}

// next returns the state after the cycle, in which the Dff nodes have read the given values.
func (m machine) next(data []api.Value) State {
	s := State{
		Dff:   bits(data, len(data)),
		Words: make([][][]api.Value, len(m.Mems)),
		Read:  make([][]api.Value, len(m.Mems)),
	}
	for k, memory := range m.Mems {
		words, addr := m.state.Words[k], m.values(memory.Addr)
		s.Read[k] = Look(words, addr)
		s.Words[k] = Store(words, addr, m.values(memory.Data), m.nets[memory.Write])
	}
	return s
}
