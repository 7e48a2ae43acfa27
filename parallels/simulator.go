package parallels

import (
	"math/bits"
	"slices"

	"probecard/api"
	"probecard/netlists"
	"probecard/sims"
	"probecard/words"
)

// simulator simulates a circuit with faults in words. It evaluates only nodes that the faults reach: most faults reach few.
type simulator struct {
	circuit api.Circuit
	order   []int        // the nodes in the order of evaluation
	place   []int        // the index of each node in order
	fanout  [][]api.Line // the pins that read each net
	shown   []bool       // whether a net is an output of the circuit or the data of a Dff node
	site    []bool       // whether a node has a changed line; between two simulations none
	good    []words.Word // the nets without fault
	bad     []words.Word // the nets with faults; between two simulations as without
	waiting []uint64     // the places of the nodes that are to be evaluated, as bits; between two simulations none
	changed []int        // the nets that are not as without fault; between two simulations none
}

// newSimulator returns a simulator of a valid circuit without memories.
func newSimulator(c api.Circuit) *simulator {
	n := len(c.Nodes)
	s := &simulator{circuit: c, place: make([]int, n), fanout: netlists.Fanout(c), shown: make([]bool, n), site: make([]bool, n), waiting: make([]uint64, n/64+1)}
	s.order, _ = netlists.Order(c) // a valid circuit has an order
	for i, node := range s.order {
		s.place[node] = i
	}
	for _, net := range c.Outs {
		s.shown[net] = true
	}
	for _, dff := range netlists.States(c) {
		s.shown[c.Nodes[dff].In[0]] = true
	}
	return s
}

// loadOne gives every lane the same pattern.
func (s *simulator) loadOne(p api.Pattern) {
	_, nets, _ := sims.Run(s.circuit, p)
	s.good = make([]words.Word, len(nets))
	for net, v := range nets {
		s.good[net] = words.Fill(v)
	}
	s.bad = slices.Clone(s.good)
}

// load gives each lane a pattern of its own.
func (s *simulator) load(l []api.Pattern) {
	_, s.good, _ = words.Run(s.circuit, l...)
	s.bad = slices.Clone(s.good)
}

// detections returns the lanes in which the responses without and with the changes contradict each other.
func (s *simulator) detections(x changes) uint64 {
	replace := x.replacement()
	for l := range x {
		s.site[l.Node] = true
		s.wait(l.Node)
	}
	s.settle(replace)
	found := s.contradictions()
	for l := range x {
		s.site[l.Node] = false
		if s.isData(l) {
			net := s.circuit.Nodes[l.Node].In[l.Pin]
			found |= contradiction(s.good[net], replace(l, s.bad[net]))
		}
	}
	s.restore()
	return found
}

// wait puts a node among those that are to be evaluated.
func (s *simulator) wait(node int) {
	place := s.place[node]
	s.waiting[place/64] |= 1 << (place % 64)
}

// settle evaluates the nodes that wait, and those that wait because of them: the latter have later places.
func (s *simulator) settle(replace replacement) {
	for i := range s.waiting {
		for s.waiting[i] != 0 {
			bit := bits.TrailingZeros64(s.waiting[i])
			s.waiting[i] &^= 1 << bit
			s.update(s.order[64*i+bit], replace)
		}
	}
}

// update evaluates a node. If its net changes, the nodes that read it wait; Dff nodes do not, as they show it only in the next cycle.
func (s *simulator) update(node int, replace replacement) {
	if !s.site[node] {
		replace = same // without looking for a change
	}
	w := replace(outputOf(node), s.evaluate(node, replace))
	if w == s.bad[node] {
		return
	}
	s.bad[node] = w
	s.changed = append(s.changed, node)
	for _, l := range s.fanout[node] {
		if !s.isData(l) {
			s.wait(l.Node)
		}
	}
}

// evaluate returns the word of a node for those that it reads. Input and Dff nodes have that of the patterns.
func (s *simulator) evaluate(node int, replace replacement) words.Word {
	n := s.circuit.Nodes[node]
	if !netlists.Comb(n.Kind) {
		return s.good[node]
	}
	var in [api.MaxFanin]words.Word
	for pin, net := range n.In {
		in[pin] = replace(api.Line{Node: node, Pin: pin}, s.bad[net])
	}
	return words.Eval(n.Kind, in[:len(n.In)]...)
}

// isData reports whether a line is the pin of a Dff node.
func (s *simulator) isData(l api.Line) bool {
	return l.Pin != output && s.circuit.Nodes[l.Node].Kind == api.Dff
}

// contradictions returns the lanes in which a net that is shown contradicts itself without fault.
func (s *simulator) contradictions() uint64 {
	var found uint64
	for _, net := range s.changed {
		if s.shown[net] {
			found |= contradiction(s.good[net], s.bad[net])
		}
	}
	return found
}

// restore gives the changed nets their words without fault.
func (s *simulator) restore() {
	for _, net := range s.changed {
		s.bad[net] = s.good[net]
	}
	s.changed = s.changed[:0]
}

// contradiction returns the lanes in which one of two words has 0 and the other has 1.
func contradiction(a, b words.Word) uint64 {
	return ones(a)&zeros(b) | zeros(a)&ones(b)
}

// ones returns the lanes of a word with the value 1.
func ones(w words.Word) uint64 { return w.One &^ w.Zero }

// zeros returns the lanes of a word with the value 0.
func zeros(w words.Word) uint64 { return w.Zero &^ w.One }
