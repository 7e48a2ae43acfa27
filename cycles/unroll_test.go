package cycles_test

import (
	"math"
	"slices"
	"strconv"
	"strings"
	"testing"

	"probecard/api"
	. "probecard/cycles"
	"probecard/memories"
	"probecard/netlists"
)

// P10.2

// describe returns the nodes of a circuit with their names, and its outputs.
func describe(c api.Circuit) string {
	kinds := strings.Fields("Input Zero One Buf Not And Nand Or Nor Xor Xnor Mux Tri Bus Dff Mem")
	numbers := func(l []int) string {
		s := ""
		for _, n := range l {
			s += " " + strconv.Itoa(n)
		}
		return s
	}
	s := ""
	for i, n := range c.Nodes {
		s += c.Names[i] + " " + kinds[n.Kind] + numbers(n.In) + ", "
	}
	return s + "out" + numbers(c.Outs)
}

// TestUnrollTable has expansions that are written by hand.
func TestUnrollTable(t *testing.T) {
	// Dff nodes that read themselves, each other, a Tri node and an input, before and behind the nodes that they read
	mixed := of([]int{5, 0, 5}, in(api.Dff, 3), in(api.Dff, 1), in(api.Input), in(api.Tri, 2, 1), in(api.Dff, 0), in(api.Bus, 3, 3), in(api.Dff, 2))
	for _, x := range []struct {
		name string
		c    api.Circuit
		n    int
		want string
	}{
		{"example", example(), 1, "0.0 Input, 0.1 Input, 0.2 Xor 0 1, 1.1 Buf 2, out 2 3"},
		{"example", example(), 2, "0.0 Input, 0.1 Input, 0.2 Xor 0 1, 1.0 Input, 1.1 Buf 2, 1.2 Xor 3 4, 2.1 Buf 5, out 2 4 5 6"},
		{"example", example(), 3, "0.0 Input, 0.1 Input, 0.2 Xor 0 1, 1.0 Input, 1.1 Buf 2, 1.2 Xor 3 4, 2.0 Input, 2.1 Buf 5, 2.2 Xor 6 7, 3.1 Buf 8, out 2 4 5 7 8 9"},
		{"mixed", mixed, 1, "0.0 Input, 0.1 Input, 0.2 Input, 0.3 Tri 2 1, 0.4 Input, 0.5 Bus 3 3, 0.6 Input, " +
			"1.0 Buf 3, 1.1 Buf 1, 1.4 Buf 0, 1.6 Buf 2, out 5 0 5 7 8 9 10"},
		{"mixed", mixed, 2, "0.0 Input, 0.1 Input, 0.2 Input, 0.3 Tri 2 1, 0.4 Input, 0.5 Bus 3 3, 0.6 Input, " +
			"1.0 Buf 3, 1.1 Buf 1, 1.2 Input, 1.3 Tri 9 8, 1.4 Buf 0, 1.5 Bus 10 10, 1.6 Buf 2, " +
			"2.0 Buf 10, 2.1 Buf 8, 2.4 Buf 7, 2.6 Buf 9, out 5 0 5 7 8 11 13 12 7 12 14 15 16 17"},
		{"without Dff nodes", of([]int{2}, in(api.Input), in(api.One), in(api.Nor, 0, 1)), 2,
			"0.0 Input, 0.1 One, 0.2 Nor 0 1, 1.0 Input, 1.1 One, 1.2 Nor 3 4, out 2 5"},
		{"without inputs and outputs", of(nil, in(api.Not, 1), in(api.Dff, 0)), 2,
			"0.0 Not 1, 0.1 Input, 1.0 Not 3, 1.1 Buf 0, 2.1 Buf 2, out 3 4"},
		{"without anything", api.Circuit{}, 3, "out"},
	} {
		f, e := expectUnroll(t, x.name, x.c, x.n)
		if got := describe(f.Circuit); e != api.OK || got != x.want {
			t.Errorf("%s, %d frames: %s, not %s, error %d", x.name, x.n, got, x.want, e)
		}
	}
}

// TestUnrollKinds has a node of every kind but Mem, with as many pins as it may have.
func TestUnrollKinds(t *testing.T) {
	c := of(nil, in(api.Input), in(api.Tri, 0, 0), in(api.Dff, 0))
	for kind := range api.Mem {
		pins := map[api.Kind]int{api.Input: 0, api.Zero: 0, api.One: 0, api.Buf: 1, api.Not: 1, api.Mux: 3, api.Tri: 2, api.Dff: 1}
		n, known := pins[kind]
		if !known {
			n = api.MaxFanin
		}
		nets := make([]int, n)
		for i := range nets {
			nets[i] = i % 3
			if kind == api.Bus {
				nets[i] = 1
			}
		}
		c.Nodes = append(c.Nodes, in(kind, nets...))
		c.Outs = append(c.Outs, len(c.Nodes)-1)
	}
	for n := 1; n < 5; n++ {
		expectUnroll(t, "all kinds", named(c), n)
	}
}

// TestUnrollNumbers has numbers of frames of all sizes.
func TestUnrollNumbers(t *testing.T) {
	for _, c := range []api.Circuit{{}, example(), plain(), sized(16, 0, 0), sized(1, 1, 0), of(nil, in(api.One))} {
		for _, n := range extremes() {
			want := api.OK
			switch {
			case n < 1:
				want = api.ErrArg
			case n > 1024 || n > 700 && len(c.Nodes) > 16:
				want = api.ErrLimit
			}
			if _, e := expectUnroll(t, strconv.Itoa(len(c.Nodes))+" nodes", c, n); e != want {
				t.Errorf("%d nodes, %d frames: error %d, not %d", len(c.Nodes), n, e, want)
			}
		}
	}
}

// limit is an expansion at a limit: circuits with one node, Dff or output more have none.
type limit struct {
	c      api.Circuit
	frames int
	want   api.Errno
}

// limits returns expansions with exactly MaxNodes nodes or outputs, and with more.
func limits() []limit {
	return []limit{
		{sized(16384, 0, 0), 1, api.OK}, {sized(16383, 1, 0), 1, api.OK}, {sized(16384, 1, 0), 1, api.ErrLimit}, {sized(16383, 2, 0), 1, api.ErrLimit},
		{sized(8192, 8192, 0), 1, api.OK}, {sized(8193, 8192, 0), 1, api.ErrLimit}, {sized(8193, 8191, 0), 1, api.OK}, {sized(8193, 8193, 0), 1, api.ErrLimit},
		{sized(8192, 0, 3), 2, api.OK}, {sized(8192, 1, 3), 2, api.ErrLimit}, {sized(8191, 2, 3), 2, api.OK}, {sized(8191, 3, 3), 2, api.ErrLimit}, {sized(8193, 0, 0), 2, api.ErrLimit},
		{sized(5461, 1, 0), 3, api.OK}, {sized(5461, 2, 0), 3, api.ErrLimit}, {sized(5462, 0, 0), 3, api.ErrLimit},
		{sized(16, 0, 16), 1024, api.OK}, {sized(16, 1, 1), 1024, api.ErrLimit}, {sized(17, 0, 1), 1024, api.ErrLimit}, {sized(15, 15, 1), 1024, api.OK}, {sized(16, 16, 0), 1023, api.OK}, {sized(16, 0, 0), 1025, api.ErrLimit},
		{sized(1, 0, 16384), 1, api.OK}, {sized(1, 1, 16384), 1, api.ErrLimit}, {sized(1, 1, 16383), 1, api.OK}, {sized(3, 3, 16382), 1, api.ErrLimit}, {sized(3, 3, 16381), 1, api.OK},
		{sized(1, 0, 8192), 2, api.OK}, {sized(1, 0, 8193), 2, api.ErrLimit}, {sized(2, 2, 8190), 2, api.OK}, {sized(2, 2, 8191), 2, api.ErrLimit},
		{sized(2, 1, 15), 1024, api.OK}, {sized(2, 1, 16), 1024, api.ErrLimit}, {sized(2, 0, 16), 1024, api.OK}, {sized(2, 0, 17), 1024, api.ErrLimit},
		{sized(16384, 16384, 16384), 1, api.ErrLimit}, {sized(16384, 16384, 16384), 1024, api.ErrLimit}, {sized(16384, 0, 0), math.MaxInt, api.ErrLimit}, {sized(16384, 9, 16384), 0, api.ErrArg},
	}
}

func TestUnrollLimits(t *testing.T) {
	for _, x := range limits() {
		name := strconv.Itoa(len(x.c.Nodes)) + " nodes, " + strconv.Itoa(len(x.c.Outs)) + " outputs"
		if _, e := expectUnroll(t, name, x.c, x.frames); e != x.want {
			t.Errorf("%s, %d frames: error %d, not %d", name, x.frames, e, x.want)
		}
	}
}

// expectNoFrames checks the errors of Unroll, Pattern and Split for a circuit that has no expansion whatever the number of frames.
func expectNoFrames(t *testing.T, name string, c api.Circuit, want api.Errno) {
	t.Helper()
	r := random(11)
	for _, n := range extremes() {
		if _, e := expectUnroll(t, name, c, n); e != want {
			t.Errorf("%s, %d frames: Unroll returns error %d, not %d", name, n, e, want)
		}
		for _, outs := range []int{0, n & 15} {
			if e := expectSplit(t, name, c, n, api.Response{Out: r.values(outs, 3)}); e != want {
				t.Errorf("%s, %d frames: Split returns error %d, not %d", name, n, e, want)
			}
		}
	}
	for _, l := range [][][]api.Value{nil, {}, r.sequence(plain(), 2, 4), sequence("01? 1"), make([][]api.Value, 1024), make([][]api.Value, 1025)} {
		for _, state := range []string{"", "01X", "???"} {
			if _, e := expectPattern(t, name, c, values(state), l); e != want {
				t.Errorf("%s, %d frames: Pattern returns error %d, not %d", name, len(l), e, want)
			}
		}
	}
}

// TestUnrollMemory has circuits with memories, and with memories that no node reads.
func TestUnrollMemory(t *testing.T) {
	for _, c := range []api.Circuit{full(), ram(), withMemory()} {
		expectNoFrames(t, "memory", c, api.ErrKind)
	}
	large := sized(16384, 9, 16384)
	large.Mems = []api.Memory{{Addr: []int{0}, Data: []int{0}}}
	expectNoFrames(t, "large memory", large, api.ErrKind)
}

// TestUnrollFlawed has circuits that netlists.Check refuses.
func TestUnrollFlawed(t *testing.T) {
	for _, f := range flaws() {
		for _, c := range flawed(f.change) {
			expectNoFrames(t, f.name, c, f.want)
		}
	}
	r := random(12)
	seen := map[api.Errno]int{}
	for range 1000 {
		c := r.broken()
		if e := netlists.Check(c); e != api.OK {
			seen[e]++
			expectUnroll(t, "broken", c, r.below(4)-1)
			expectPattern(t, "broken", c, r.values(r.below(3), 4), r.sequence(c, r.below(3), 5))
			expectSplit(t, "broken", c, r.below(4)-1, api.Response{Out: r.values(r.below(3), 4)})
			expectRun(t, "broken", c, memories.State{Dff: r.values(r.below(3), 4)}, r.sequence(c, r.below(3), 5))
			expectSettled(t, "broken", c, r.sequence(c, r.below(3), 5))
		}
	}
	if len(seen) < 3 {
		t.Errorf("%v", seen)
	}
}

// TestUnrollRandom compares Unroll with its definition.
func TestUnrollRandom(t *testing.T) {
	for i, c := range circuits(400, 25, 1) {
		for n := range 6 {
			expectUnroll(t, "circuit "+strconv.Itoa(i), c, n)
		}
	}
	for i, c := range circuits(10, 12, 0) {
		for _, n := range []int{9, 10, 11, 99, 100, 101, 1000, 1024} {
			expectUnroll(t, "circuit "+strconv.Itoa(i), c, n)
		}
	}
}

// TestUnrollNames has the longest names that nodes of expansions have.
func TestUnrollNames(t *testing.T) {
	f, e := Unroll(sized(8192, 0, 0), 2)
	if e != api.OK || f.Circuit.Names[16383] != "1.8191" || f.Circuit.Names[8192] != "1.0" || f.Circuit.Names[8191] != "0.8191" {
		t.Errorf("error %d", e)
	}
	f, e = Unroll(sized(15, 15, 0), 1024)
	if e != api.OK || f.Circuit.Names[15374] != "1024.14" || f.Circuit.Names[15359] != "1023.14" || f.Circuit.Names[10] != "0.10" {
		t.Errorf("error %d", e)
	}
	c := sized(16383, 1, 1)
	slices.Reverse(c.Names)
	f, e = Unroll(c, 1)
	if e != api.OK || f.Circuit.Names[16383] != "1.16382" || f.Circuit.Names[16382] != "0.16382" {
		t.Errorf("error %d", e)
	}
}
