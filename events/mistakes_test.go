package events_test

import (
	"slices"
	"strconv"
	"testing"

	"probecard/api"
	. "probecard/events"
)

// The errors of P8.2, and simulators of the empty circuit.

// expectError checks that a pattern has an error and changes nothing.
func expectError(t *testing.T, name string, s *Sim, m *model, p api.Pattern, want api.Errno) {
	t.Helper()
	if l, e := s.Apply(p); e != want || len(l) != 0 {
		t.Errorf("%s: Apply of %v returns %v with error %d, not %d", name, p, l, e, want)
	}
	expectState(t, name, s, m)
}

// TestMistakes has each mistake after some patterns, several times and before another pattern.
func TestMistakes(t *testing.T) {
	r := random(31)
	for _, x := range mistakes() {
		for n := range 4 {
			s, m := start(t, x.name, full(), r.sequence(n, full())...)
			for range 3 {
				p := r.pattern(full(), 4)
				x.change(&p)
				expectError(t, x.name, s, m, p, x.want)
			}
			for _, p := range r.sequence(3, full()) {
				expectApply(t, x.name+" before", s, m, p)
			}
		}
	}
}

// TestMistakesNear has patterns that are the current one but for a mistake, so that a simulator has nothing to do for them.
func TestMistakesNear(t *testing.T) {
	for _, x := range mistakes() {
		s, m := start(t, x.name, full(), pattern("101", "010"), pattern("100", "011"))
		p := pattern("100", "011")
		x.change(&p)
		expectError(t, x.name, s, m, p, x.want)
		expectApply(t, x.name+" before", s, m, pattern("100", "011"))
	}
}

// TestBytes has each value of a byte at each place.
func TestBytes(t *testing.T) {
	for v := range 256 {
		for at := range 6 {
			name := "value " + strconv.Itoa(v)
			s, m := start(t, name, full(), pattern("011", "10Z"))
			p := pattern("1X0", "01X")
			[][]api.Value{p.In, p.State}[at/3][at%3] = api.Value(v)
			if v > 3 {
				expectError(t, name, s, m, p, api.ErrArg)
			} else {
				expectApply(t, name, s, m, p)
			}
		}
	}
}

// TestLengths has all lengths of In and State around the right ones, with valid values and others.
func TestLengths(t *testing.T) {
	s, m := start(t, "full", full(), pattern("011", "10Z"))
	for ins := range 8 {
		for states := range 8 {
			for _, v := range []api.Value{api.V1, api.VX, 4, 255} {
				p := api.Pattern{In: slices.Repeat([]api.Value{v}, ins), State: slices.Repeat([]api.Value{v}, states)}
				name := "lengths " + strconv.Itoa(ins) + " and " + strconv.Itoa(states)
				switch {
				case ins != 3 || states != 3:
					expectError(t, name, s, m, p, api.ErrWidth)
				case v > 3:
					expectError(t, name, s, m, p, api.ErrArg)
				default:
					expectApply(t, name, s, m, p)
				}
			}
		}
	}
}

// TestErrorsRandom has random sequences in which about half of the patterns are wrong.
func TestErrorsRandom(t *testing.T) {
	r := random(32)
	seen := map[api.Errno]int{}
	for i, c := range circuits(200, 20) {
		name := "circuit " + strconv.Itoa(i)
		s, m := start(t, name, c)
		for _, p := range r.sequence(30, c) {
			switch r.below(6) {
			case 0:
				p = api.Pattern{In: r.values(r.below(5), 6), State: r.values(r.below(4), 6)}
			case 1, 2:
				p = r.pattern(c, 6)
			}
			seen[errorOf(c, p)]++
			expectApply(t, name, s, m, p)
		}
	}
	for _, e := range []api.Errno{api.OK, api.ErrArg, api.ErrWidth} {
		if seen[e] < 500 {
			t.Errorf("errors %v", seen)
		}
	}
}

// TestEmpty has simulators of the empty circuit: the nil one, the zero one and that of New.
func TestEmpty(t *testing.T) {
	made, e := New(api.Circuit{Nodes: []api.Node{}, Names: []string{}, Mems: []api.Memory{}, Outs: []int{}})
	if e != api.OK || made == nil {
		t.Fatalf("New returns error %d", e)
	}
	m := modelOf(api.Circuit{})
	for name, s := range map[string]*Sim{"nil": nil, "zero": new(Sim), "made": made} {
		expectState(t, name, s, m)
		for range 2 {
			for _, none := range [][]api.Value{nil, {}} {
				expectApply(t, name, s, m, api.Pattern{In: none, State: none})
				for _, one := range []api.Value{api.V0, api.VX, 9} {
					expectError(t, name, s, m, api.Pattern{In: []api.Value{one}, State: none}, api.ErrWidth)
					expectError(t, name, s, m, api.Pattern{In: none, State: []api.Value{one}}, api.ErrWidth)
					expectError(t, name, s, m, api.Pattern{In: []api.Value{one}, State: []api.Value{one}}, api.ErrWidth)
				}
			}
		}
	}
	var zero Sim
	if l, e := zero.Apply(api.Pattern{}); e != api.OK || len(l) != 0 || len(zero.Values()) != 0 || zero.Evals() != 0 {
		t.Errorf("zero: %v with error %d", l, e)
	}
}
