package events_test

import (
	"slices"
	"strconv"
	"testing"

	"probecard/api"
	. "probecard/events"
	"probecard/logic"
	"probecard/netlists"
	"probecard/sims"
)

// P8.1

// expectNoSim checks that New returns an error, and no simulator with it.
func expectNoSim(t *testing.T, name string, c api.Circuit, want api.Errno) {
	t.Helper()
	if s, e := New(c); s != nil || e != want {
		t.Errorf("%s: New returns %v with error %d, not %d", name, s, e, want)
	}
}

// TestNewInvalid has circuits with each error of netlists.Check, with and without memories.
func TestNewInvalid(t *testing.T) {
	for _, f := range flaws() {
		for _, c := range flawed(f.change) {
			if e := netlists.Check(c); e != f.want {
				t.Errorf("%s: netlists.Check returns %d, not %d", f.name, e, f.want)
			}
			expectNoSim(t, f.name, c, f.want)
		}
	}
}

// TestNewMemories has valid circuits with memories.
func TestNewMemories(t *testing.T) {
	expectNoSim(t, "a memory", withMemory(), api.ErrKind)
	expectNoSim(t, "a Mem node", withMemNode(), api.ErrKind)
	c := of(nil, in(api.Zero))
	c.Mems = []api.Memory{{Addr: []int{0}, Data: []int{0}, Write: 0}}
	expectNoSim(t, "a memory alone", c, api.ErrKind)
	c.Nodes[0].Kind = api.Mem
	expectNoSim(t, "a Mem node alone", c, api.ErrKind)
	c.Nodes[0].Kind, c.Mems = api.Input, []api.Memory{}
	start(t, "no memory", c, pattern("1", ""))
}

// TestNewRandom compares the error with that of sims.Check, for circuits that are valid or not.
func TestNewRandom(t *testing.T) {
	r := random(11)
	seen := map[api.Errno]int{}
	for i := range 3000 {
		c := r.broken()
		if r.below(5) == 0 {
			c = r.circuit(1 + r.below(12))
		}
		want := sims.Check(c, sims.Blank(c))
		seen[want]++
		name := "circuit " + strconv.Itoa(i)
		if want != api.OK {
			expectNoSim(t, name, c, want)
		} else {
			start(t, name, c)
		}
	}
	for _, e := range []api.Errno{api.OK, api.ErrArg, api.ErrKind, api.ErrWidth} {
		if seen[e] < 50 {
			t.Errorf("errors %v", seen)
		}
	}
}

// TestNewValues checks what a new simulator shows: the pattern of sims.Blank, and no evaluation.
func TestNewValues(t *testing.T) {
	for _, x := range []struct {
		c         api.Circuit
		nets, out string
	}{
		{example(), "XXXXXX", "XX"},
		{of([]int{0, 1, 2, 3, 4, 5}, in(api.Zero), in(api.One), in(api.Tri, 0, 3), in(api.Input), in(api.And, 0, 3), in(api.Bus, 2)), "01ZX0Z", "01ZX0Z"},
		{full(), "XX" + "XX" + "1X0XXX" + "XXXXXX" + "XXXXX", "XXXXXXX"},
		{api.Circuit{}, "", ""},
	} {
		s, e := New(x.c)
		if e != api.OK || logic.Text(s.Values()...) != x.nets || logic.Text(s.Response().Out...) != x.out || s.Evals() != 0 {
			t.Errorf("%s and %v with error %d, not %s and %s", logic.Text(s.Values()...), s.Response(), e, x.nets, x.out)
		}
	}
	for i, c := range circuits(300, 40) {
		s, _ := start(t, "circuit "+strconv.Itoa(i), c)
		r, nets, _ := sims.Run(c, sims.Blank(c))
		if !slices.Equal(s.Values(), nets) || !sameResponse(s.Response(), r) || s.Evals() != 0 {
			t.Errorf("circuit %d: %s and %v after %d evaluations", i, logic.Text(s.Values()...), s.Response(), s.Evals())
		}
	}
}

// TestNewApart checks that simulators of the same circuit do not influence each other.
func TestNewApart(t *testing.T) {
	r := random(12)
	for i, c := range circuits(60, 30) {
		name := "circuit " + strconv.Itoa(i)
		var l []*Sim
		var models []*model
		for range 4 {
			s, m := start(t, name, c)
			l, models = append(l, s), append(models, m)
		}
		for range 20 {
			at := r.below(4)
			expectApply(t, name, l[at], models[at], r.pattern(c, 4))
			for k, s := range l {
				expectState(t, name, s, models[k])
			}
		}
	}
}
