package rewrites_test

import (
	"slices"
	"strconv"
	"testing"

	"probecard/api"
	"probecard/logic"
	"probecard/memories"
	"probecard/netlists"
	. "probecard/rewrites"
	"probecard/sims"
)

// P11.4

// expectNets checks that each node that has a replacement has the value of its net.
func expectNets(t *testing.T, name string, before, after []api.Value, to []int) {
	t.Helper()
	for i, k := range to {
		if k != -1 && before[i] != after[k] {
			t.Errorf("%s: node %d is %s, its replacement %d is %s", name, i, logic.Text(before[i]), k, logic.Text(after[k]))
		}
	}
}

// expectPattern compares the responses of a circuit and of a rewritten one to a pattern.
func expectPattern(t *testing.T, name string, c api.Circuit, r Result, p api.Pattern) {
	t.Helper()
	want, before, e := sims.Run(c, p)
	got, after, f := sims.Run(r.Circuit, p)
	if e != api.OK || f != api.OK || !sameResponse(got, want) {
		t.Errorf("%s: %v, not %v, for %v, with errors %d and %d; %s becomes %s", name, got, want, p, e, f, text(c), text(r.Circuit))
		return
	}
	expectNets(t, name, before, after, r.Map)
}

// TestPatterns simulates random circuits, and those that they become, with patterns of all values.
func TestPatterns(t *testing.T) {
	r := random(114)
	for i, c := range slices.Concat(circuits(1500, 12, 0), circuits(500, 40, 0)) {
		for _, f := range functions() {
			got, _ := f.of(c)
			name := "circuit " + strconv.Itoa(i) + ", " + f.name
			expectPattern(t, name, c, got, sims.Blank(c))
			for range 12 {
				expectPattern(t, name, c, got, r.pattern(c))
			}
		}
	}
}

// TestAllPatterns has small circuits and all of their patterns.
func TestAllPatterns(t *testing.T) {
	for i, c := range slices.Concat(circuits(400, 9, 0), []api.Circuit{
		read("INPUT(a); b = BUF(a); t = TRI(a, b); u = BUS(t); v = BUF(u); w = NOT(u); x = NOT(w); OUTPUT(b); OUTPUT(u); OUTPUT(v); OUTPUT(x); OUTPUT(a)"),
		read("INPUT(a); INPUT(b); q = DFF(y); o = ONE(); t = TRI(o, q); u = TRI(a, b); s = BUS(t, u); x = XOR(s, o, q); y = NOT(x); n = NOT(y); OUTPUT(t); OUTPUT(n); OUTPUT(s)"),
		read("q = DFF(b); b = BUF(q); n = NOT(q); m = NOT(n); OUTPUT(b); OUTPUT(m); OUTPUT(q)"),
	}) {
		inputs, states := count(c, api.Input), count(c, api.Dff)
		if inputs+states > 4 {
			continue
		}
		for _, f := range functions() {
			r, _ := f.of(c)
			for number := range 1 << (2 * (inputs + states)) {
				all := make([]api.Value, inputs+states)
				for k := range all {
					all[k] = api.Value(number >> (2 * k) % 4)
				}
				expectPattern(t, "circuit "+strconv.Itoa(i)+", "+f.name, c, r, api.Pattern{In: all[:inputs], State: all[inputs:]})
			}
		}
	}
}

// TestCycles simulates several cycles of random circuits with memories, and of those that they become.
func TestCycles(t *testing.T) {
	random := random(115)
	for i, c := range circuits(600, 30, 3) {
		for _, f := range functions() {
			r, _ := f.of(c)
			name := "circuit " + strconv.Itoa(i) + ", " + f.name
			state := memories.Blank(c)
			for cycle := range 8 {
				if cycle == 1 {
					state = random.state(c)
				}
				inputs := random.values(count(c, api.Input), 4)
				next, want, before, e := memories.Cycle(c, state, inputs)
				last, got, after, f := memories.Cycle(r.Circuit, state, inputs)
				if e != api.OK || f != api.OK || !sameResponse(got, want) || !memories.Same(last, next) {
					t.Errorf("%s: %v, not %v, with errors %d and %d; %s becomes %s", name, got, want, e, f, text(c), text(r.Circuit))
					break
				}
				expectNets(t, name, before, after, r.Map)
				state = next
			}
		}
	}
}

// TestValid checks that the results are valid circuits with the same inputs, states, memories and outputs, and no larger ones.
func TestValid(t *testing.T) {
	for i, c := range slices.Concat(circuits(500, 20, 0), circuits(500, 40, 3)) {
		for _, f := range functions() {
			r, _ := f.of(c)
			d := r.Circuit
			if e := netlists.Check(d); e != api.OK || len(r.Map) != len(c.Nodes) || len(d.Nodes) > len(c.Nodes) || len(d.Outs) != len(c.Outs) || len(d.Mems) != len(c.Mems) {
				t.Errorf("circuit %d: %s returns %s and %v, with error %d", i, f.name, text(d), r.Map, e)
				continue
			}
			for _, kind := range []api.Kind{api.Input, api.Dff, api.Mem} {
				before, after := netlists.Of(c, kind), netlists.Of(d, kind)
				if !slices.EqualFunc(before, after, func(i, k int) bool { return c.Names[i] == d.Names[k] }) {
					t.Errorf("circuit %d: %s changes the nodes of kind %d", i, f.name, kind)
				}
			}
		}
	}
}
