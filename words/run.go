package words

import (
	"slices"

	"probecard/api"
	"probecard/netlists"
	"probecard/sims"
)

// Run simulates one cycle for up to 64 patterns at once.
func Run(c api.Circuit, l ...api.Pattern) ([]api.Response, []Word, api.Errno) {
	if e := check(c, l); e != api.OK {
		return nil, nil, e
	}
	nets := simulate(c, l)
	responses := make([]api.Response, len(l))
	for lane := range len(l) {
		responses[lane] = sims.Observe(c, valuesOf(nets, lane))
	}
	return responses, nets, api.OK
}

// check returns the error of Run. It leaves patterns that fit to themselves, as sims.Check would check the circuit again with each of them.
func check(c api.Circuit, l []api.Pattern) api.Errno {
	if len(l) > lanes {
		return api.ErrLimit
	}
	blank := sims.Blank(c)
	if e := sims.Check(c, blank); e != api.OK {
		return e
	}
	wrong := slices.IndexFunc(l, func(p api.Pattern) bool { return !fit(p.In, blank.In) || !fit(p.State, blank.State) })
	if wrong < 0 {
		return api.OK
	}
	return sims.Check(c, l[wrong])
}

// fit reports whether values are valid, and as many as others.
func fit(l, others []api.Value) bool {
	return len(l) == len(others) && !slices.ContainsFunc(l, func(v api.Value) bool { return v > api.VZ })
}

// simulate returns the words of all nets for a circuit and patterns without error. Pack leaves X in the lanes without a pattern, as Blank does.
func simulate(c api.Circuit, l []api.Pattern) []Word {
	nets := make([]Word, len(c.Nodes))
	for i, node := range netlists.Inputs(c) {
		nets[node] = pack(l, func(p api.Pattern) api.Value { return p.In[i] })
	}
	for i, node := range netlists.States(c) {
		nets[node] = pack(l, func(p api.Pattern) api.Value { return p.State[i] })
	}
	order, _ := netlists.Order(c) // a circuit without error has an order
	for _, i := range order {
		if n := c.Nodes[i]; netlists.Comb(n.Kind) {
			nets[i] = Eval(n.Kind, wordsOf(nets, n.In)...)
		}
	}
	return nets
}

// pack returns the word with a value of the i-th pattern, which pick selects, in lane i.
func pack(l []api.Pattern, pick func(p api.Pattern) api.Value) Word {
	values := make([]api.Value, len(l))
	for lane := range len(l) {
		values[lane] = pick(l[lane])
	}
	return Pack(values...)
}

// wordsOf returns the words of some nets.
func wordsOf(nets []Word, l []int) []Word {
	in := make([]Word, len(l))
	for pin, net := range l {
		in[pin] = nets[net]
	}
	return in
}

// valuesOf returns the values of all nets in a lane.
func valuesOf(nets []Word, lane int) []api.Value {
	l := make([]api.Value, len(nets))
	for net, w := range nets {
		l[net] = w.At(lane)
	}
	return l
}
