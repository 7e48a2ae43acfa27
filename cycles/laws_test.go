package cycles_test

import (
	"slices"
	"strconv"
	"testing"

	"probecard/api"
	. "probecard/cycles"
	"probecard/logic"
	"probecard/memories"
	"probecard/sims"
)

// P10.6

// expectFrames compares the simulation of an expansion in one cycle with that of the sequence: all responses and all nets.
func expectFrames(t *testing.T, name string, c api.Circuit, s []api.Value, l [][]api.Value) {
	t.Helper()
	name += ", " + strconv.Itoa(len(l)) + " frames"
	f, e := Unroll(c, len(l))
	p, pe := Pattern(c, s, l...)
	r, nets, re := sims.Run(f.Circuit, p)
	got, se := Split(c, len(l), r)
	want, last, we := Run(c, memories.State{Dff: s}, l...)
	if e != api.OK || pe != api.OK || re != api.OK || se != api.OK || we != api.OK {
		t.Errorf("%s: errors %d, %d, %d, %d, %d", name, e, pe, re, se, we)
		return
	}
	if !slices.EqualFunc(got, want, sameResponse) {
		t.Errorf("%s: responses %v, not %v", name, got, want)
	}
	if end := got[len(l)-1].Next; !slices.Equal(end, last.Dff) {
		t.Errorf("%s: last state %v, not %v", name, end, last.Dff)
	}
	for frame, x := range cyclesOf(c, memories.State{Dff: s}, l) {
		for i, node := range f.Nodes[frame] {
			if nets[node] != x.nets[i] {
				t.Errorf("%s: net %d in frame %d is %d, not %d", name, i, frame, nets[node], x.nets[i])
			}
		}
	}
}

// TestFrames has random circuits without memories, states and sequences.
func TestFrames(t *testing.T) {
	r := random(51)
	for i, c := range circuits(400, 25, 0) {
		for n := 1; n < 7; n++ {
			expectFrames(t, "circuit "+strconv.Itoa(i), c, r.values(count(c, api.Dff), 2+n%2), r.sequence(c, n, 2+r.below(3)))
		}
	}
	for range 50 {
		expectFrames(t, "plain", plain(), r.values(3, 3), r.sequence(plain(), 1+r.below(20), 4))
	}
}

// TestFramesMost has as many frames as there may be.
func TestFramesMost(t *testing.T) {
	r := random(52)
	for _, c := range []api.Circuit{example(), register(3), register(14), {}, of([]int{0}, in(api.Dff, 1), in(api.Not, 0))} {
		for _, limit := range []int{2, 4} {
			expectFrames(t, "most", c, r.values(count(c, api.Dff), min(limit, 3)), r.sequence(c, 1024, limit))
		}
	}
}

// TestParts splits sequences into two everywhere.
func TestParts(t *testing.T) {
	r := random(53)
	for i, c := range circuits(300, 25, 2) {
		s, l := r.state(c, 3), r.sequence(c, r.below(8), 2+r.below(3))
		want, last, e := Run(c, s, l...)
		for k := range len(l) + 1 {
			first, middle, fe := Run(c, s, l[:k]...)
			second, end, se := Run(c, middle, l[k:]...)
			if e != api.OK || fe != api.OK || se != api.OK || !sameState(end, last) || !slices.EqualFunc(append(first, second...), want, sameResponse) {
				t.Errorf("circuit %d: split after %d of %d cycles, from %s by %s to %s, not %s", i, k, len(l), show(s), show(middle), show(end), show(last))
			}
		}
	}
}

// TestPartsFrames puts two expansions behind each other: the last next state of the first one is the state of the second one.
func TestPartsFrames(t *testing.T) {
	r := random(54)
	split := func(c api.Circuit, s []api.Value, l [][]api.Value) []api.Response {
		f, _ := Unroll(c, len(l))
		p, _ := Pattern(c, s, l...)
		whole, _, _ := sims.Run(f.Circuit, p)
		responses, e := Split(c, len(l), whole)
		if e != api.OK {
			t.Errorf("error %d", e)
		}
		return responses
	}
	for i, c := range circuits(200, 25, 0) {
		s, l := r.values(count(c, api.Dff), 3), r.sequence(c, 6, 4)
		want := split(c, s, l)
		for k := 1; k < 6; k++ {
			first := split(c, s, l[:k])
			second := split(c, first[k-1].Next, l[k:])
			if !slices.EqualFunc(append(first, second...), want, sameResponse) {
				t.Errorf("circuit %d: split after %d cycles: %v and %v, not %v", i, k, first, second, want)
			}
		}
	}
}

// TestSettledAlike runs a sequence from many states: the Dff nodes that Settled returns always have the same known value.
func TestSettledAlike(t *testing.T) {
	r := random(55)
	settled, others := 0, 0
	for i, c := range circuits(300, 20, 2) {
		l := r.sequence(c, 1+r.below(5), 2+r.below(4)/3*2)
		nodes, e := Settled(c, l...)
		_, blank, _ := Run(c, memories.Blank(c), l...)
		seen := map[int]map[api.Value]bool{}
		for range 24 {
			_, last, re := Run(c, r.state(c, 2+r.below(4)/3), l...)
			if e != api.OK || re != api.OK {
				t.Fatalf("circuit %d: errors %d and %d", i, e, re)
			}
			for k, n := range c.Nodes {
				if n.Kind != api.Dff {
					continue
				}
				v := last.Dff[rank(c, k)]
				if seen[k] == nil {
					seen[k] = map[api.Value]bool{}
				}
				seen[k][v] = true
				if slices.Contains(nodes, k) && (v != blank.Dff[rank(c, k)] || v > api.V1) {
					t.Errorf("circuit %d: node %d is %d after %s", i, k, v, logic.Text(slices.Concat(l...)...))
				}
			}
		}
		for k, values := range seen {
			if slices.Contains(nodes, k) {
				settled++
			} else if len(values) > 1 {
				others++
			}
		}
	}
	if settled < 100 || others < 100 {
		t.Errorf("%d Dff nodes are settled, %d differ", settled, others)
	}
}
