package sims_test

import (
	"reflect"
	"slices"
	"strconv"
	"testing"

	"probecard/api"
	. "probecard/sims"
)

// The rules R1, R3 and R4, and P1.

// arguments are those of all functions.
type arguments struct {
	circuit api.Circuit
	pattern api.Pattern
	nets    []api.Value
}

// results are those of all functions, with empty slices for nil ones.
type results struct {
	check     api.Errno
	blank     api.Pattern
	run       api.Response
	nets      []api.Value
	runError  api.Errno
	observe   api.Response
	conflicts []int
}

// callAll calls all functions.
func callAll(a arguments) results {
	var r results
	r.check = Check(a.circuit, a.pattern)
	r.blank = Blank(a.circuit)
	r.run, r.nets, r.runError = Run(a.circuit, a.pattern)
	r.observe = Observe(a.circuit, a.nets)
	r.conflicts = Conflicts(a.circuit, a.nets)
	for _, l := range r.lists() {
		if *l == nil {
			*l = []api.Value{}
		}
	}
	if r.conflicts == nil {
		r.conflicts = []int{}
	}
	return r
}

// lists returns the lists of values of the results.
func (r *results) lists() []*[]api.Value {
	return []*[]api.Value{&r.blank.In, &r.blank.State, &r.run.Out, &r.run.Next, &r.nets, &r.observe.Out, &r.observe.Next}
}

// fit reports whether the capacity of each list is its length.
func (r *results) fit() bool {
	return len(r.conflicts) == cap(r.conflicts) && !slices.ContainsFunc(r.lists(), func(l *[]api.Value) bool { return len(*l) != cap(*l) })
}

// spoil changes every element of l, and appends to it.
func spoil[T any](l []T, junk T) {
	for i := range l {
		l[i] = junk
	}
	_ = append(l, junk)
}

// spoil changes every element of every list.
func (r *results) spoil() {
	for _, l := range r.lists() {
		spoil(*l, 77)
	}
	spoil(r.conflicts, -77)
}

// spoil changes every element of all arguments.
func (a *arguments) spoil() {
	spoil(a.pattern.In, 66)
	spoil(a.pattern.State, 66)
	spoil(a.nets, 66)
	for i := range a.circuit.Nodes {
		spoil(a.circuit.Nodes[i].In, -66)
	}
	for i := range a.circuit.Mems {
		spoil(a.circuit.Mems[i].Addr, -66)
		spoil(a.circuit.Mems[i].Data, -66)
	}
	spoil(a.circuit.Outs, -66)
	spoil(a.circuit.Nodes, api.Node{Kind: 66})
	spoil(a.circuit.Names, "spoilt")
	spoil(a.circuit.Mems, api.Memory{Write: -66})
}

// room gives copies of lists with junk behind their ends, and remembers them.
type room struct{ checks []func() bool }

// roomFor returns a copy of l with room behind its end.
func roomFor[T any](r *room, l []T, junk T) []T {
	out := slices.Concat(l, []T{junk, junk, junk})
	want := slices.Clone(out)
	r.checks = append(r.checks, func() bool { return reflect.DeepEqual(out, want) })
	return out[:len(l)]
}

// untouched reports whether all copies, and what stands behind them, are as they were.
func (r *room) untouched() bool {
	return !slices.ContainsFunc(r.checks, func(same func() bool) bool { return !same() })
}

// roomy returns equal arguments in memory of their own, with room behind the ends of all lists.
func roomy(a arguments) (arguments, *room) {
	r := &room{}
	ints := func(l []int) []int { return roomFor(r, l, -88) }
	vals := func(l []api.Value) []api.Value { return roomFor(r, l, 88) }
	c := api.Circuit{Outs: ints(a.circuit.Outs), Names: roomFor(r, a.circuit.Names, "junk")}
	for _, n := range a.circuit.Nodes {
		n.In = ints(n.In)
		c.Nodes = append(c.Nodes, n)
	}
	c.Nodes = roomFor(r, c.Nodes, api.Node{Kind: 88})
	for _, m := range a.circuit.Mems {
		m.Addr, m.Data = ints(m.Addr), ints(m.Data)
		c.Mems = append(c.Mems, m)
	}
	c.Mems = roomFor(r, c.Mems, api.Memory{Write: -88})
	return arguments{c, api.Pattern{In: vals(a.pattern.In), State: vals(a.pattern.State)}, vals(a.nets)}, r
}

// samples returns arguments of all sorts, valid or not.
func samples() []arguments {
	r := random(41)
	l := append(circuits(150, 25), withMemory(), withMemNode())
	for _, f := range flaws() {
		for _, c := range flawed(f.change) {
			if len(c.Nodes) < 1000 && len(c.Outs) < 1000 {
				l = append(l, c)
			}
		}
	}
	for range 150 {
		l = append(l, r.broken())
	}
	var samples []arguments
	for _, c := range l {
		samples = append(samples, arguments{c, r.pattern(c, 4), r.values(r.below(len(c.Nodes)+4), 6)})
	}
	for _, m := range mistakes() {
		p := r.pattern(full(), 4)
		m.change(&p)
		samples = append(samples, arguments{full(), p, values("01XZ01XZ")})
	}
	for n := range 7 { // as many Bus nodes in conflict
		c := api.Circuit{Nodes: slices.Repeat([]api.Node{in(api.Bus, 0, 1)}, n)}
		samples = append(samples, arguments{c, api.Pattern{}, values("01")})
	}
	return append(samples, arguments{full(), pattern("110", "10X"), values("00X00000100000000XX00")})
}

// TestArgumentsUnchanged calls all functions, and changes their results: the arguments and what stands behind them stay as they were.
func TestArgumentsUnchanged(t *testing.T) {
	for i, a := range samples() {
		b, r := roomy(a)
		results := callAll(b)
		if !r.untouched() {
			t.Errorf("sample %d: an argument is changed", i)
		}
		results.spoil()
		if !r.untouched() {
			t.Errorf("sample %d: an argument shares memory with a result", i)
		}
	}
}

// TestResultsNew changes results, and then the arguments: neither later nor earlier results change with them.
func TestResultsNew(t *testing.T) {
	for i, a := range samples() {
		b, _ := roomy(a)
		want, first := callAll(b), callAll(b)
		if !want.fit() {
			t.Errorf("sample %d: a result has room behind its end", i)
		}
		first.spoil()
		again := callAll(b)
		b.spoil()
		if !reflect.DeepEqual(again, want) {
			t.Errorf("sample %d: other results after they or the arguments are changed", i)
		}
	}
}

// TestResultsApart changes each list of the results: the others stay as they were.
func TestResultsApart(t *testing.T) {
	for i, a := range samples() {
		want := callAll(a)
		for k := range want.lists() {
			got := callAll(a)
			spoil(*got.lists()[k], 77)
			for other, l := range got.lists() {
				if other != k && !slices.Equal(*l, *want.lists()[other]) {
					t.Errorf("sample %d: the results %d and %d share memory", i, k, other)
				}
			}
		}
	}
}

// swapped returns an empty slice for nil, nil for an empty one, and otherwise l.
func swapped[T any](l []T) []T {
	switch {
	case l == nil:
		return []T{}
	case len(l) == 0:
		return nil
	}
	return l
}

// TestNilArguments compares nil slices with empty ones.
func TestNilArguments(t *testing.T) {
	for i, a := range samples() {
		b, _ := roomy(a)
		c := b.circuit
		for k, n := range c.Nodes {
			c.Nodes[k].In = swapped(n.In)
		}
		for k, m := range c.Mems {
			c.Mems[k].Addr, c.Mems[k].Data = swapped(m.Addr), swapped(m.Data)
		}
		b.circuit = api.Circuit{Nodes: swapped(c.Nodes), Names: swapped(c.Names), Mems: swapped(c.Mems), Outs: swapped(c.Outs)}
		b.pattern = api.Pattern{In: swapped(b.pattern.In), State: swapped(b.pattern.State)}
		b.nets = swapped(b.nets)
		if got, want := callAll(b), callAll(a); !reflect.DeepEqual(got, want) {
			t.Errorf("sample %d: %+v for nil slices, not %+v", i, got, want)
		}
	}
}

// TestSharedArguments has circuits and patterns whose lists share memory with each other.
func TestSharedArguments(t *testing.T) {
	nets := []int{0, 1, 2}
	c := of(nets, in(api.Input), in(api.Dff, nets[2:]...), in(api.Nand, nets[:2]...))
	for _, v := range []api.Value{0, 1, 2, 3} {
		both := []api.Value{v}
		r, l, e := Run(c, api.Pattern{In: both, State: both})
		want := netsOf(c, api.Pattern{In: []api.Value{v}, State: []api.Value{v}})
		if e != api.OK || !slices.Equal(l, want) || !sameResponse(r, responseOf(c, want)) || both[0] != v {
			t.Error("value " + strconv.Itoa(int(v)) + " in a shared list")
		}
		if r := Observe(c, l); !sameResponse(r, responseOf(c, want)) {
			t.Error(r)
		}
	}
}

// TestInvalidTerminates calls all functions with circuits and values of random numbers, most of them not valid.
func TestInvalidTerminates(t *testing.T) {
	r := random(42)
	for range 3000 {
		c := r.broken()
		p := r.pattern(c, 6)
		if r.below(4) == 0 {
			p = api.Pattern{In: r.values(r.below(4), 6), State: r.values(r.below(4), 6)}
		}
		got := callAll(arguments{c, p, r.values(r.below(12), 8)})
		if got.check != got.runError || got.check != api.OK && len(got.nets)+len(got.run.Out)+len(got.run.Next) > 0 {
			t.Errorf("%+v", got)
		}
	}
}
