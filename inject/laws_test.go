package inject_test

import (
	"slices"
	"testing"

	"probecard/api"
	"probecard/faults"
	. "probecard/inject"
	"probecard/logic"
	"probecard/sims"
)

// P13.6

// small returns circuits with at most so many inputs and states, so that all their patterns can be tried.
func small(count, nodes, most int) []api.Circuit {
	return slices.DeleteFunc(circuits(count, nodes), func(c api.Circuit) bool {
		p := sims.Blank(c)
		return len(p.In)+len(p.State) > most
	})
}

// cutCase is a fault and its circuit of Cut.
type cutCase struct {
	f api.Fault
	d api.Circuit
}

// cutCases returns the faults of a circuit whose places in the list are divisible by step, with their circuits of Cut.
func cutCases(t *testing.T, c api.Circuit, step int) []cutCase {
	t.Helper()
	var l []cutCase
	for i, f := range all(c, api.Stuck, api.Wired, api.Strong) {
		if i%step > 0 {
			continue
		}
		d, e := Cut(c, f)
		if e != api.OK {
			t.Errorf("%s: error %d", faults.Text(f), e)
		}
		l = append(l, cutCase{f, d})
	}
	return l
}

// expectSame expects the same response from Run and from sims.Run for the circuit of Cut.
func expectSame(t *testing.T, c api.Circuit, x cutCase, p api.Pattern) {
	t.Helper()
	want, _, e := Run(c, x.f, p)
	r, _, d := sims.Run(x.d, p)
	if !sameResponse(r, want) || e != api.OK || d != api.OK {
		t.Errorf("%v: %s, pattern %v: Run returns %s, the circuit of Cut shows %s, errors %d and %d", c.Nodes, faults.Text(x.f), p, show(want), show(r), e, d)
	}
}

// TestCutShows has all patterns of small circuits, and random ones of larger circuits.
func TestCutShows(t *testing.T) {
	for _, c := range small(150, 9, 3) {
		for _, x := range cutCases(t, c, 1) {
			eachPattern(c, 4, func(p api.Pattern) { expectSame(t, c, x, p) })
		}
	}
	r := random(138)
	for _, c := range circuits(150, 60) {
		for _, x := range cutCases(t, c, 1+len(c.Nodes)/4) {
			for range 3 {
				expectSame(t, c, x, r.pattern(c, 2+2*api.Value(r.below(2))))
			}
		}
	}
}

// TestOutputsStuck has lines that are stuck at the outputs of nodes that are outputs of the circuit.
func TestOutputsStuck(t *testing.T) {
	opposite, same := 0, 0
	for _, c := range small(300, 12, 4) {
		eachPattern(c, 4, func(p api.Pattern) {
			_, nets, _ := sims.Run(c, p)
			for _, net := range c.Outs {
				if !logic.Known(nets[net]) {
					continue
				}
				f := api.Fault{Line: at(net, -1), Value: 1 - nets[net]}
				if is, e := Detects(c, f, p); !is || e != api.OK {
					t.Errorf("%v: pattern %v does not detect %s, error %d", c.Nodes, p, faults.Text(f), e)
				}
				opposite++
				f.Value = nets[net]
				if is, e := Detects(c, f, p); is || e != api.OK { // the fault changes nothing
					t.Errorf("%v: pattern %v detects %s, error %d", c.Nodes, p, faults.Text(f), e)
				}
				same++
			}
		})
	}
	if opposite < 5000 || same < 5000 {
		t.Errorf("%d and %d cases", opposite, same)
	}
}

// unknown returns the pattern with more unknown values.
func (r *random) unknown(p api.Pattern) api.Pattern {
	hide := func(l []api.Value) []api.Value {
		l = slices.Clone(l)
		for i := range l {
			if r.below(3) == 0 {
				l[i] = api.VX
			}
		}
		return l
	}
	return api.Pattern{In: hide(p.In), State: hide(p.State)}
}

// raised returns the pattern with known values for some of the unknown ones, or for all of them.
func (r *random) raised(p api.Pattern) api.Pattern {
	chance := r.below(3)
	raise := func(l []api.Value) []api.Value {
		l = slices.Clone(l)
		for i, v := range l {
			if !logic.Known(v) && (chance == 0 || r.below(chance+1) == 0) {
				l[i] = api.Value(r.below(2))
			}
		}
		return l
	}
	return api.Pattern{In: raise(p.In), State: raise(p.State)}
}

// TestDetectsMonotone replaces unknown values of patterns that detect a fault by known ones.
func TestDetectsMonotone(t *testing.T) {
	r := random(139)
	kept := map[api.Model]int{}
	for _, c := range circuits(400, 30) {
		for _, m := range []api.Model{api.Stuck, api.Wired, api.Strong, api.Slow} {
			for range 25 {
				f, ok := r.fault(c, m)
				if !ok {
					break
				}
				p, q := r.unknown(r.pattern(c, 4)), r.unknown(r.pattern(c, 4))
				if is, _ := detects(c, f, p, q); !is {
					continue
				}
				kept[m]++
				for range 4 {
					p2, q2 := r.raised(p), r.raised(q)
					if is, e := detects(c, f, p2, q2); !is || e != api.OK {
						t.Errorf("%v: %s is detected by %v and %v, but not by %v and %v, error %d", c.Nodes, faults.Text(f), p, q, p2, q2, e)
					}
				}
			}
		}
	}
	for m := range api.Strong + 1 {
		if kept[m] < 100 {
			t.Errorf("%d faults of model %d are detected", kept[m], m)
		}
	}
}

// detects calls Detects with the first pattern, or PairDetects for a slow line.
func detects(c api.Circuit, f api.Fault, first, second api.Pattern) (bool, api.Errno) {
	if f.Model == api.Slow {
		return PairDetects(c, f, first, second)
	}
	return Detects(c, f, first)
}

// TestDetectsRaised has all patterns of small circuits, and all patterns with known values for the unknown ones.
func TestDetectsRaised(t *testing.T) {
	count := 0
	for _, c := range small(120, 8, 3) {
		for _, f := range all(c, api.Stuck, api.Wired, api.Strong) {
			eachPattern(c, 3, func(p api.Pattern) {
				is, _ := Detects(c, f, p)
				if !is || !slices.Contains(slices.Concat(p.In, p.State), api.VX) {
					return
				}
				eachPattern(c, 2, func(q api.Pattern) {
					if !isAbove(q.In, p.In) || !isAbove(q.State, p.State) {
						return
					}
					if is, e := Detects(c, f, q); !is || e != api.OK {
						t.Errorf("%v: %s is detected by %v, but not by %v, error %d", c.Nodes, faults.Text(f), p, q, e)
					}
					count++
				})
			})
		}
	}
	if count < 1000 {
		t.Errorf("%d cases", count)
	}
}

// isAbove reports whether each value of a is above that of b at its place.
func isAbove(a, b []api.Value) bool {
	return slices.EqualFunc(a, b, func(x, y api.Value) bool { return y == api.VX || x == y })
}

// expectSlow expects for two patterns for which all nets are known that a slow line is detected exactly if it is the opposite of its value in the first cycle, and stuck at that in the second one is detected. It reports whether it is.
func expectSlow(t *testing.T, c api.Circuit, f api.Fault, before []api.Value, first, second api.Pattern) bool {
	t.Helper()
	net := f.Line.Node
	if f.Line.Pin >= 0 {
		net = c.Nodes[net].In[f.Line.Pin]
	}
	opposite := 1 - f.Value
	stuck, _ := Detects(c, api.Fault{Line: f.Line, Value: opposite}, second)
	want := before[net] == opposite && stuck
	if is, e := PairDetects(c, f, first, second); is != want || e != api.OK {
		t.Errorf("%v: %s with %v and %v: %t with error %d", c.Nodes, faults.Text(f), first, second, is, e)
	}
	return want
}

// TestSlowKnown has all slow lines and all pairs of patterns of small circuits for which all nets are known, and random ones of larger circuits.
func TestSlowKnown(t *testing.T) {
	seen := map[bool]int{}
	isKnown := func(nets []api.Value) bool {
		return !slices.ContainsFunc(nets, func(v api.Value) bool { return !logic.Known(v) })
	}
	try := func(c api.Circuit, first, second api.Pattern, l []api.Fault) {
		_, before, _ := sims.Run(c, first)
		_, after, _ := sims.Run(c, second)
		if !isKnown(before) || !isKnown(after) {
			return
		}
		for _, f := range l {
			seen[expectSlow(t, c, f, before, first, second)]++
		}
	}
	for _, c := range small(200, 9, 3) {
		l := all(c, api.Slow)
		eachPattern(c, 2, func(first api.Pattern) {
			eachPattern(c, 2, func(second api.Pattern) { try(c, first, second, l) })
		})
	}
	r := random(140)
	for _, c := range circuits(300, 30) {
		for range 10 {
			if f, ok := r.fault(c, api.Slow); ok {
				try(c, r.pattern(c, 2), r.pattern(c, 2), []api.Fault{f})
			}
		}
	}
	if seen[true] < 1000 || seen[false] < 10000 {
		t.Errorf("%v", seen)
	}
}
