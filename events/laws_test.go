package events_test

import (
	"slices"
	"strconv"
	"testing"

	"probecard/api"
	. "probecard/events"
	"probecard/logic"
	"probecard/netlists"
	"probecard/sims"
)

// P8.4

// walk calls f for patterns of random sequences, with the values before each of them and what Apply returns.
func walk(t *testing.T, seed random, f func(name string, c api.Circuit, s *Sim, old []api.Value, p api.Pattern, changed []int)) {
	t.Helper()
	for i, c := range circuits(200, 50) {
		name := "circuit " + strconv.Itoa(i)
		s, e := New(c)
		if e != api.OK {
			t.Fatalf("%s: New returns error %d", name, e)
		}
		for _, p := range seed.sequence(20, c) {
			old := s.Values()
			changed, e := s.Apply(p)
			if e != api.OK {
				t.Fatalf("%s: Apply returns error %d", name, e)
			}
			f(name, c, s, old, p, changed)
		}
	}
}

// TestExactly checks that the nets that Apply returns are those whose value has changed, ascending, and that the values are those of sims.Run.
func TestExactly(t *testing.T) {
	some, none := 0, 0
	walk(t, 41, func(name string, c api.Circuit, s *Sim, old []api.Value, p api.Pattern, changed []int) {
		nets := s.Values()
		if want := differences(old, nets); !slices.Equal(changed, want) {
			t.Errorf("%s: %v, not %v", name, changed, want)
		}
		r, want, e := sims.Run(c, p)
		if e != api.OK || !slices.Equal(nets, want) || !sameResponse(s.Response(), r) {
			t.Errorf("%s: %s and %v, not %s and %v, with error %d", name, logic.Text(nets...), s.Response(), logic.Text(want...), r, e)
		}
		if len(changed) > 0 {
			some++
		} else {
			none++
		}
	})
	if some < 1000 || none < 200 {
		t.Errorf("%d patterns change nets, %d do not", some, none)
	}
}

// TestFanout checks that changed nets are in the fanout of a changed input or state, and that no node outside of it is evaluated.
func TestFanout(t *testing.T) {
	idle, kept := 0, 0
	walk(t, 42, func(name string, c api.Circuit, s *Sim, old []api.Value, p api.Pattern, changed []int) {
		nets := s.Values()
		var sources []int
		for _, net := range slices.Concat(netlists.Inputs(c), netlists.States(c)) {
			if old[net] != nets[net] {
				sources = append(sources, net)
			}
		}
		cone := coneOf(c, sources)
		for _, net := range changed {
			if !cone[net] {
				t.Errorf("%s: net %d is not in the fanout of %v", name, net, sources)
			}
		}
		for _, net := range sources {
			cone[net] = false
		}
		most := len(where(cone))
		least := len(changed) - len(sources)
		if s.Evals() > most || s.Evals() < least {
			t.Errorf("%s: %d evaluations, of %d nodes in the fanout, %d of which change", name, s.Evals(), most, least)
		}
		idle += most - s.Evals()
		kept += s.Evals() - least
	})
	if idle < 1000 || kept < 1000 {
		t.Errorf("%d nodes of the fanout are not evaluated, and %d nodes without changing", idle, kept)
	}
}

// TestOnce checks that exactly the combinational nodes that read a changed net are evaluated, each once.
func TestOnce(t *testing.T) {
	walk(t, 43, func(name string, c api.Circuit, s *Sim, old []api.Value, p api.Pattern, changed []int) {
		want := 0
		for _, n := range c.Nodes {
			if n.Kind != api.Dff && slices.ContainsFunc(n.In, func(net int) bool { return slices.Contains(changed, net) }) {
				want++
			}
		}
		if s.Evals() != want {
			t.Errorf("%s: %d evaluations, not %d", name, s.Evals(), want)
		}
	})
}

// TestSame applies each pattern again.
func TestSame(t *testing.T) {
	walk(t, 44, func(name string, c api.Circuit, s *Sim, old []api.Value, p api.Pattern, changed []int) {
		nets := s.Values()
		for range 2 {
			if l, e := s.Apply(api.Pattern{In: slices.Clone(p.In), State: slices.Clone(p.State)}); e != api.OK || len(l) != 0 || s.Evals() != 0 || !slices.Equal(s.Values(), nets) {
				t.Errorf("%s: the same pattern changes %v with %d evaluations, error %d", name, l, s.Evals(), e)
			}
		}
	})
}

// TestBack applies the pattern before each of the patterns once more: the same nodes are evaluated, and the same nets change.
func TestBack(t *testing.T) {
	for i, c := range circuits(200, 40) {
		r := random(45 + i)
		for range 10 {
			a := r.pattern(c, 4)
			b := r.near(a, 1+r.below(4))
			s, m := start(t, "circuit "+strconv.Itoa(i), c, a)
			old := s.Values()
			there, _ := s.Apply(b)
			evals := s.Evals()
			back, e := s.Apply(a)
			m.apply(b)
			m.apply(a)
			expectState(t, "circuit "+strconv.Itoa(i), s, m)
			if e != api.OK || !slices.Equal(there, back) || s.Evals() != evals || !slices.Equal(s.Values(), old) {
				t.Errorf("circuit %d: %v with %d evaluations, and %v with %d back", i, there, evals, back, s.Evals())
			}
		}
	}
}

// TestHistory checks that values and responses depend on the last pattern alone.
func TestHistory(t *testing.T) {
	walk(t, 46, func(name string, c api.Circuit, s *Sim, old []api.Value, p api.Pattern, changed []int) {
		other, _ := New(c)
		if _, e := other.Apply(p); e != api.OK || !slices.Equal(other.Values(), s.Values()) || !sameResponse(other.Response(), s.Response()) {
			t.Errorf("%s: %s, but %s for a new simulator, with error %d", name, logic.Text(s.Values()...), logic.Text(other.Values()...), e)
		}
	})
}

// TestRenumbered checks that values and changes move with the nodes, and that as many nodes are evaluated.
func TestRenumbered(t *testing.T) {
	for i, c := range circuits(200, 40) {
		r := random(47 + i)
		to := r.permutation(len(c.Nodes))
		d := renumbered(c, to)
		s, _ := start(t, "circuit "+strconv.Itoa(i), c)
		other, _ := start(t, "circuit "+strconv.Itoa(i), d)
		for _, p := range r.sequence(15, c) {
			changed, _ := s.Apply(p)
			var want []int
			for _, net := range changed {
				want = append(want, to[net])
			}
			slices.Sort(want)
			moved := make([]api.Value, len(to))
			for net, v := range s.Values() {
				moved[to[net]] = v
			}
			got, e := other.Apply(patternOf(d, moved))
			if e != api.OK || !slices.Equal(got, want) || !slices.Equal(other.Values(), moved) || other.Evals() != s.Evals() {
				t.Errorf("circuit %d: %v with %d evaluations, not %v with %d, error %d", i, got, other.Evals(), want, s.Evals(), e)
			}
		}
	}
}

// patternOf returns the pattern that given values of the nets contain.
func patternOf(c api.Circuit, nets []api.Value) api.Pattern {
	var p api.Pattern
	for net, n := range c.Nodes {
		switch n.Kind {
		case api.Input:
			p.In = append(p.In, nets[net])
		case api.Dff:
			p.State = append(p.State, nets[net])
		}
	}
	return p
}
