package events_test

import (
	"reflect"
	"slices"
	"strconv"
	"testing"

	"probecard/api"
	. "probecard/events"
)

// The rules R1, R3 and R4, and P1.

// shown is what a simulator returns for one pattern, with empty slices for nil ones.
type shown struct {
	changed  []int
	e        api.Errno
	values   []api.Value
	response api.Response
	evals    int
}

// apply applies a pattern and calls the other methods.
func apply(s *Sim, p api.Pattern) *shown {
	var r shown
	r.changed, r.e = s.Apply(p)
	r.values, r.response, r.evals = s.Values(), s.Response(), s.Evals()
	if r.changed == nil {
		r.changed = []int{}
	}
	for _, l := range r.lists() {
		if *l == nil {
			*l = []api.Value{}
		}
	}
	return &r
}

// lists returns the lists of values.
func (r *shown) lists() []*[]api.Value {
	return []*[]api.Value{&r.values, &r.response.Out, &r.response.Next}
}

// fit reports whether the capacity of each list is its length.
func (r *shown) fit() bool {
	return len(r.changed) == cap(r.changed) && !slices.ContainsFunc(r.lists(), func(l *[]api.Value) bool { return len(*l) != cap(*l) })
}

// spoil changes every element of every list.
func (r *shown) spoil() {
	spoil(r.changed, -77)
	for _, l := range r.lists() {
		spoil(*l, 77)
	}
}

// spoil changes every element of l, and appends to it.
func spoil[T any](l []T, junk T) {
	for i := range l {
		l[i] = junk
	}
	_ = append(l, junk)
}

// spoilCircuit changes every element of every list of a circuit.
func spoilCircuit(c api.Circuit) {
	for _, n := range c.Nodes {
		spoil(n.In, -66)
	}
	for _, m := range c.Mems {
		spoil(m.Addr, -66)
		spoil(m.Data, -66)
	}
	spoil(c.Nodes, api.Node{Kind: 66})
	spoil(c.Names, "spoilt")
	spoil(c.Mems, api.Memory{Write: -66})
	spoil(c.Outs, -66)
}

// spoilPattern changes every element of a pattern.
func spoilPattern(p api.Pattern) {
	spoil(p.In, 66)
	spoil(p.State, 66)
}

// room gives copies of lists with junk behind their ends, and remembers them.
type room struct{ checks []func() bool }

// roomFor returns a copy of l with room behind its end.
func roomFor[T any](r *room, l []T, junk T) []T {
	out := slices.Concat(l, []T{junk, junk, junk})
	want := slices.Clone(out)
	r.checks = append(r.checks, func() bool { return reflect.DeepEqual(out, want) })
	return out[:len(l)]
}

// untouched reports whether all copies, and what stands behind them, are as they were.
func (r *room) untouched() bool {
	return !slices.ContainsFunc(r.checks, func(same func() bool) bool { return !same() })
}

// circuit returns an equal circuit with room behind the ends of all lists.
func (r *room) circuit(a api.Circuit) api.Circuit {
	ints := func(l []int) []int { return roomFor(r, l, -88) }
	c := api.Circuit{Outs: ints(a.Outs), Names: roomFor(r, a.Names, "junk")}
	for _, n := range a.Nodes {
		n.In = ints(n.In)
		c.Nodes = append(c.Nodes, n)
	}
	c.Nodes = roomFor(r, c.Nodes, api.Node{Kind: 88})
	for _, m := range a.Mems {
		m.Addr, m.Data = ints(m.Addr), ints(m.Data)
		c.Mems = append(c.Mems, m)
	}
	c.Mems = roomFor(r, c.Mems, api.Memory{Write: -88})
	return c
}

// pattern returns an equal pattern with room behind the ends of its lists.
func (r *room) pattern(p api.Pattern) api.Pattern {
	return api.Pattern{In: roomFor(r, p.In, 88), State: roomFor(r, p.State, 88)}
}

// sample is a circuit and patterns, some of them wrong.
type sample struct {
	circuit  api.Circuit
	patterns []api.Pattern
}

// samples returns circuits of all sorts, valid or not.
func samples() []sample {
	r := random(51)
	l := append(circuits(120, 30), withMemory(), withMemNode())
	for _, f := range flaws() {
		for _, c := range flawed(f.change) {
			if len(c.Nodes) < 1000 && len(c.Outs) < 1000 {
				l = append(l, c)
			}
		}
	}
	for range 100 {
		l = append(l, r.broken())
	}
	var samples []sample
	for _, c := range l {
		patterns := r.sequence(8, c)
		patterns[r.below(8)] = r.pattern(c, 8)
		samples = append(samples, sample{c, patterns})
	}
	for _, m := range mistakes() {
		patterns := r.sequence(6, full())
		m.change(&patterns[3])
		samples = append(samples, sample{full(), patterns})
	}
	return samples
}

// runAll makes a simulator of a circuit and applies patterns. If there is no simulator, it goes on with the nil one.
func runAll(c api.Circuit, l []api.Pattern) ([]*shown, api.Errno) {
	s, e := New(c)
	var all []*shown
	for _, p := range l {
		all = append(all, apply(s, p))
	}
	return all, e
}

// TestArgumentsUnchanged calls all functions, and changes their results: the arguments and what stands behind them stay as they were.
func TestArgumentsUnchanged(t *testing.T) {
	for i, x := range samples() {
		r := &room{}
		c := r.circuit(x.circuit)
		var patterns []api.Pattern
		for _, p := range x.patterns {
			patterns = append(patterns, r.pattern(p))
		}
		all, _ := runAll(c, patterns)
		if !r.untouched() {
			t.Errorf("sample %d: an argument is changed", i)
		}
		for _, x := range all {
			x.spoil()
		}
		if !r.untouched() {
			t.Errorf("sample %d: an argument shares memory with a result", i)
		}
	}
}

// TestArgumentsForgotten changes the circuit after New, and each pattern and all results after Apply: a simulator does not change with them.
func TestArgumentsForgotten(t *testing.T) {
	for i, x := range samples() {
		want, wantError := runAll(x.circuit, x.patterns)
		r := &room{}
		c := r.circuit(x.circuit)
		s, e := New(c)
		if e != wantError {
			t.Errorf("sample %d: error %d, not %d", i, e, wantError)
		}
		spoilCircuit(c)
		for k, p := range x.patterns {
			p = r.pattern(p)
			got := apply(s, p)
			spoilPattern(p)
			if !got.fit() {
				t.Errorf("sample %d, pattern %d: a result has room behind its end", i, k)
			}
			if !reflect.DeepEqual(got, want[k]) {
				t.Errorf("sample %d, pattern %d: %+v, not %+v", i, k, got, want[k])
			}
			got.spoil()
			if values, r := s.Values(), s.Response(); !slices.Equal(values, want[k].values) || !sameResponse(r, want[k].response) || s.Evals() != want[k].evals {
				t.Errorf("sample %d, pattern %d: %v and %v, not %+v, after the results are changed", i, k, values, r, want[k])
			}
		}
	}
}

// TestResultsNew keeps the results of all patterns: later patterns do not change them, and no two of them share memory.
func TestResultsNew(t *testing.T) {
	for i, x := range samples() {
		want, _ := runAll(x.circuit, x.patterns)
		s, _ := New(x.circuit)
		var all []*shown
		for _, p := range x.patterns {
			s.Values()
			all = append(all, apply(s, p))
		}
		if !reflect.DeepEqual(all, want) {
			t.Errorf("sample %d: %+v, not %+v", i, all, want)
		}
		for k, got := range all {
			for _, l := range got.lists() {
				spoil(*l, 77)
				*l = nil
			}
			spoil(got.changed, -77)
			if !reflect.DeepEqual(all[k+1:], want[k+1:]) {
				t.Errorf("sample %d: results of pattern %d and later ones share memory", i, k)
			}
		}
	}
}

// TestResultsApart changes each list of one result: the others stay as they were.
func TestResultsApart(t *testing.T) {
	for i, x := range samples() {
		s, _ := New(x.circuit)
		for k, p := range x.patterns {
			got := apply(s, p)
			want := shown{slices.Clone(got.changed), got.e, slices.Clone(got.values), api.Response{Out: slices.Clone(got.response.Out), Next: slices.Clone(got.response.Next)}, got.evals}
			lists, wantLists := got.lists(), want.lists()
			for n, l := range lists {
				spoil(*l, 77)
				for m := n + 1; m < len(lists); m++ {
					if !slices.Equal(*lists[m], *wantLists[m]) {
						t.Errorf("sample %d, pattern %d: the lists %d and %d share memory", i, k, n, m)
					}
				}
			}
			a, b := s.Values(), s.Values()
			spoil(a, 77)
			if !slices.Equal(b, want.values) {
				t.Errorf("sample %d, pattern %d: two results of Values share memory", i, k)
			}
		}
	}
}

// swapped returns an empty slice for nil, nil for an empty one, and otherwise l.
func swapped[T any](l []T) []T {
	switch {
	case l == nil:
		return []T{}
	case len(l) == 0:
		return nil
	}
	return l
}

// TestNilArguments compares nil slices with empty ones.
func TestNilArguments(t *testing.T) {
	for i, x := range samples() {
		r := &room{}
		c := r.circuit(x.circuit)
		for k, n := range c.Nodes {
			c.Nodes[k].In = swapped(n.In)
		}
		for k, m := range c.Mems {
			c.Mems[k].Addr, c.Mems[k].Data = swapped(m.Addr), swapped(m.Data)
		}
		c = api.Circuit{Nodes: swapped(c.Nodes), Names: swapped(c.Names), Mems: swapped(c.Mems), Outs: swapped(c.Outs)}
		var patterns []api.Pattern
		for _, p := range x.patterns {
			patterns = append(patterns, api.Pattern{In: swapped(p.In), State: swapped(p.State)})
		}
		got, e := runAll(c, patterns)
		want, wantError := runAll(x.circuit, x.patterns)
		if e != wantError || !reflect.DeepEqual(got, want) {
			t.Errorf("sample %d: %+v and %d for nil slices, not %+v and %d", i, got, e, want, wantError)
		}
	}
}

// TestSharedArguments has a circuit and patterns whose lists share memory with each other, also with the values that a simulator has returned.
func TestSharedArguments(t *testing.T) {
	nets := []int{0, 1, 2}
	c := of(nets, in(api.Input), in(api.Dff, nets[2:]...), in(api.Nand, nets[:2]...))
	s, m := start(t, "shared", c)
	both := []api.Value{api.VX}
	for i := range 64 {
		v := api.Value(i / 4 % 4)
		both[0] = v
		expectApply(t, "shared "+strconv.Itoa(i), s, m, api.Pattern{In: both, State: both})
		if both[0] != v {
			t.Errorf("%d becomes %d", v, both[0])
		}
		l := s.Values()
		expectApply(t, "shared "+strconv.Itoa(i), s, m, api.Pattern{In: l[2:], State: s.Response().Out[:1]})
	}
}
