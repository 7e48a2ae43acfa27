package events_test

import (
	"slices"
	"testing"

	"probecard/api"
	. "probecard/events"
	"probecard/logic"
	"probecard/netlists"
	"probecard/sims"
)

// model is a simulator of a valid circuit without memories by the chapter's words, which looks at every node each time.
type model struct {
	circuit api.Circuit
	order   []int
	nets    []api.Value
	evals   int
}

// modelOf returns a model at first.
func modelOf(c api.Circuit) *model {
	order, _ := netlists.Order(c)
	_, nets, _ := sims.Run(c, sims.Blank(c))
	return &model{circuit: c, order: order, nets: nets}
}

// count returns the number of nodes of a kind.
func count(c api.Circuit, kind api.Kind) int {
	n := 0
	for _, node := range c.Nodes {
		if node.Kind == kind {
			n++
		}
	}
	return n
}

// errorOf returns the error of a pattern.
func errorOf(c api.Circuit, p api.Pattern) api.Errno {
	if len(p.In) != count(c, api.Input) || len(p.State) != count(c, api.Dff) {
		return api.ErrWidth
	}
	for _, v := range slices.Concat(p.In, p.State) {
		if v > 3 {
			return api.ErrArg
		}
	}
	return api.OK
}

// apply applies a pattern.
func (m *model) apply(p api.Pattern) ([]int, api.Errno) {
	if e := errorOf(m.circuit, p); e != api.OK {
		return nil, e
	}
	m.evals = 0
	changed := make([]bool, len(m.nets))
	change := func(net int, v api.Value) { m.nets[net], changed[net] = v, m.nets[net] != v }
	for i, node := range netlists.Inputs(m.circuit) {
		change(node, p.In[i])
	}
	for i, node := range netlists.States(m.circuit) {
		change(node, p.State[i])
	}
	for _, i := range m.order {
		n := m.circuit.Nodes[i]
		if netlists.Comb(n.Kind) && slices.ContainsFunc(n.In, func(net int) bool { return changed[net] }) {
			m.evals++
			change(i, logic.Eval(n.Kind, m.at(n.In)...))
		}
	}
	return where(changed), api.OK
}

// at returns the values of some nets.
func (m *model) at(l []int) []api.Value {
	var out []api.Value
	for _, net := range l {
		out = append(out, m.nets[net])
	}
	return out
}

// where returns the indices of the true elements.
func where(l []bool) []int {
	var out []int
	for i, is := range l {
		if is {
			out = append(out, i)
		}
	}
	return out
}

// differences returns the indices at which two lists of one length differ.
func differences(a, b []api.Value) []int {
	var out []int
	for i, v := range a {
		if v != b[i] {
			out = append(out, i)
		}
	}
	return out
}

// coneOf tells of each net whether it is one of l or depends on one of them.
func coneOf(c api.Circuit, l []int) []bool {
	cone := make([]bool, len(c.Nodes))
	for _, net := range l {
		cone[net] = true
	}
	order, _ := netlists.Order(c)
	for _, i := range order {
		n := c.Nodes[i]
		if netlists.Comb(n.Kind) && slices.ContainsFunc(n.In, func(net int) bool { return cone[net] }) {
			cone[i] = true
		}
	}
	return cone
}

// sameResponse reports whether two responses have the same values.
func sameResponse(a, b api.Response) bool {
	return slices.Equal(a.Out, b.Out) && slices.Equal(a.Next, b.Next)
}

// start returns a simulator and a model of a circuit, after some patterns.
func start(t *testing.T, name string, c api.Circuit, l ...api.Pattern) (*Sim, *model) {
	t.Helper()
	s, e := New(c)
	if e != api.OK || s == nil {
		t.Fatalf("%s: New returns error %d", name, e)
	}
	m := modelOf(c)
	expectState(t, name, s, m)
	for _, p := range l {
		expectApply(t, name, s, m, p)
	}
	return s, m
}

// expectState compares what a simulator and a model show.
func expectState(t *testing.T, name string, s *Sim, m *model) {
	t.Helper()
	if got := s.Values(); !slices.Equal(got, m.nets) {
		t.Errorf("%s: the values %s, not %s", name, logic.Text(got...), logic.Text(m.nets...))
	}
	if got, want := s.Response(), sims.Observe(m.circuit, m.nets); !sameResponse(got, want) {
		t.Errorf("%s: the response %v, not %v", name, got, want)
	}
	if got := s.Evals(); got != m.evals {
		t.Errorf("%s: %d evaluations, not %d", name, got, m.evals)
	}
}

// expectApply applies a pattern to a simulator and a model, and compares them.
func expectApply(t *testing.T, name string, s *Sim, m *model, p api.Pattern) {
	t.Helper()
	got, e := s.Apply(p)
	want, wantError := m.apply(p)
	if e != wantError || !slices.Equal(got, want) {
		t.Errorf("%s: Apply of %v returns %v and %d, not %v and %d", name, p, got, e, want, wantError)
	}
	expectState(t, name, s, m)
	if e != api.OK {
		return
	}
	r, nets, runError := sims.Run(m.circuit, p)
	if runError != api.OK || !slices.Equal(s.Values(), nets) || !sameResponse(s.Response(), r) {
		t.Errorf("%s: %s and %v, but sims.Run returns %s, %v and %d", name, logic.Text(s.Values()...), s.Response(), logic.Text(nets...), r, runError)
	}
}
