package cones_test

import (
	"reflect"
	"slices"
	"testing"

	"probecard/api"
	. "probecard/cones"
)

// The rules R1, R3 and R4, and P1.

// junk stands behind the ends of slices of numbers.
var junk = []int{-77, -77, -77}

// roomy returns a circuit equal to c, in memory of its own, whose lists of nets have room behind their ends, and a function that reports whether both are untouched.
func roomy(c api.Circuit) (api.Circuit, func() bool) {
	var checks []func() bool
	ints := func(l []int) []int {
		out := slices.Concat(l, junk)
		checks = append(checks, func() bool { return slices.Equal(out, slices.Concat(l, junk)) })
		return out[:len(l)]
	}
	d := api.Circuit{Nodes: slices.Clone(c.Nodes), Names: slices.Clone(c.Names), Mems: slices.Clone(c.Mems), Outs: ints(c.Outs)}
	for i, n := range c.Nodes {
		d.Nodes[i].In = ints(n.In)
	}
	for i, m := range c.Mems {
		d.Mems[i].Addr, d.Mems[i].Data = ints(m.Addr), ints(m.Data)
	}
	return d, func() bool {
		for _, same := range checks {
			if !same() {
				return false
			}
		}
		return reflect.DeepEqual(shape(c), shape(d)) && slices.Equal(c.Names, d.Names)
	}
}

// shape returns what a circuit holds beside its lists of numbers and its names.
func shape(c api.Circuit) []int {
	l := []int{len(c.Nodes), len(c.Mems), len(c.Outs)}
	for _, n := range c.Nodes {
		l = append(l, int(n.Kind), n.Mem, n.Bit, len(n.In))
	}
	for _, m := range c.Mems {
		l = append(l, m.Write, len(m.Addr), len(m.Data))
	}
	return l
}

// allResults returns the lists of all calls, with empty slices for nil ones, and whether the capacity of each is its length.
func allResults(c api.Circuit) ([][]int, bool) {
	calls := callsWithout()
	for n := -1; n <= len(c.Nodes); n++ {
		calls = append(calls, callsAt(n)...)
	}
	l := [][]int{Points(c)}
	for _, call := range calls {
		got, e := call.of(c)
		l = append(l, got, []int{int(e)})
	}
	fits := true
	for i, list := range l {
		fits = fits && len(list) == cap(list)
		if list == nil {
			l[i] = []int{}
		}
	}
	return l, fits
}

// spoil changes every element of every list, and appends to it.
func spoil(lists [][]int) {
	for _, l := range lists {
		for i := range l {
			l[i] = -55
		}
		_ = append(l, -55)
	}
}

// scramble changes every element of the lists of a circuit.
func scramble(c api.Circuit) {
	for i := range c.Nodes {
		spoil([][]int{c.Nodes[i].In})
		c.Nodes[i] = api.Node{Kind: 99}
	}
	for i := range c.Mems {
		spoil([][]int{c.Mems[i].Addr, c.Mems[i].Data})
		c.Mems[i] = api.Memory{}
	}
	spoil([][]int{c.Outs})
	clear(c.Names)
}

// samples returns valid circuits and some that are not.
func samples() []api.Circuit {
	l := circuits(60, 20)
	for _, f := range flaws() {
		c := full()
		f.change(&c)
		if len(c.Nodes) < 1000 && len(c.Outs) < 1000 {
			l = append(l, c)
		}
	}
	r := random(41)
	for range 60 {
		l = append(l, r.broken())
	}
	return l
}

func TestArgumentsUnchanged(t *testing.T) {
	for i, c := range samples() {
		d, untouched := roomy(c)
		l, _ := allResults(d)
		if !untouched() {
			t.Errorf("circuit %d is changed", i)
		}
		spoil(l)
		if !untouched() {
			t.Errorf("circuit %d shares memory with a result", i)
		}
	}
}

// TestListsUnchanged has lists of nodes with room behind their ends.
func TestListsUnchanged(t *testing.T) {
	for _, of := range []func(c api.Circuit, l ...int) ([]int, api.Errno){Fanin, Fanout} {
		for _, l := range [][]int{{}, {0}, {21}, {20, 17, 20}, {25, 3, 0, 25}, {2, 26, 2}, {-1}} {
			room := slices.Concat(l, junk)
			got, _ := of(full(), room[:len(l)]...)
			if !slices.Equal(room, slices.Concat(l, junk)) {
				t.Errorf("the list %v is changed to %v", l, room)
			}
			spoil([][]int{got})
			if !slices.Equal(room, slices.Concat(l, junk)) {
				t.Errorf("the list %v shares memory with the result", l)
			}
		}
	}
}

// TestResultsNew changes results, and then the circuit: neither later nor earlier results change with them.
func TestResultsNew(t *testing.T) {
	for i, c := range samples() {
		d, _ := roomy(c)
		want, fits := allResults(d)
		if !fits {
			t.Errorf("circuit %d: a result has room behind its end", i)
		}
		first, _ := allResults(d)
		spoil(first)
		again, _ := allResults(d)
		scramble(d)
		if !reflect.DeepEqual(again, want) {
			t.Errorf("circuit %d: other results after they or the circuit are changed", i)
		}
	}
}

// TestResultsApart changes the lists of one call after the other: those of other calls stay as they were.
func TestResultsApart(t *testing.T) {
	c := full()
	want, _ := allResults(c)
	got, _ := allResults(c)
	for i := range got {
		spoil(got[:i])
		if !slices.Equal(got[i], want[i]) {
			t.Errorf("result %d shares memory with an earlier one", i)
		}
	}
}

// TestNilArguments compares nil slices with empty ones.
func TestNilArguments(t *testing.T) {
	for i, c := range samples() {
		d := c
		d.Nodes, d.Mems = slices.Clone(c.Nodes), slices.Clone(c.Mems)
		for k, n := range d.Nodes {
			d.Nodes[k].In = other(n.In)
		}
		for k, m := range d.Mems {
			d.Mems[k].Addr, d.Mems[k].Data = other(m.Addr), other(m.Data)
		}
		d.Outs = other(c.Outs)
		if len(d.Mems) == 0 {
			d.Mems = []api.Memory{}
		}
		a, _ := allResults(c)
		b, _ := allResults(d)
		if !reflect.DeepEqual(a, b) {
			t.Errorf("circuit %d: other results for empty slices", i)
		}
	}
}

// other returns an empty slice for nil, nil for an empty one, and otherwise l.
func other(l []int) []int {
	switch {
	case l == nil:
		return []int{}
	case len(l) == 0:
		return nil
	}
	return l
}

// TestInvalidTerminates calls all functions with circuits of random numbers, most of them not valid.
func TestInvalidTerminates(t *testing.T) {
	r := random(42)
	for range 500 {
		c := r.broken()
		if r.below(2) == 0 {
			c = named(c)
		}
		allResults(c)
	}
}
