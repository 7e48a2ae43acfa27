package faults_test

import (
	"slices"
	"strconv"
	"strings"
	"testing"

	"probecard/api"
	. "probecard/faults"
)

// P12.2, All

// texts returns the texts of faults, separated by commas.
func texts(l []api.Fault) string {
	var words []string
	for _, f := range l {
		words = append(words, textOf(f))
	}
	return strings.Join(words, ", ")
}

// expectAll expects the faults of a model.
func expectAll(t *testing.T, name string, c api.Circuit, m api.Model, want string) {
	t.Helper()
	l, e := All(c, m)
	if got := texts(l); e != api.OK || got != want {
		t.Errorf("%s: %s with error %d, not %s", name, got, e, want)
	}
}

func TestAll(t *testing.T) {
	for m := range api.Strong + 1 {
		expectAll(t, "no nodes", api.Circuit{}, m, "")
	}
	expectAll(t, "example", example(), api.Stuck, "stuck 0 0, stuck 0 1, stuck 1 0, stuck 1 1, stuck 2 0, stuck 2 1, stuck 2.0 0, stuck 2.0 1, stuck 2.1 0, stuck 2.1 1")
	expectAll(t, "example", example(), api.Slow, "slow 0 0, slow 0 1, slow 1 0, slow 1 1, slow 2 0, slow 2 1, slow 2.0 0, slow 2.0 1, slow 2.1 0, slow 2.1 1")
	expectAll(t, "example", example(), api.Wired, "wired 0 1 0, wired 0 1 1")
	expectAll(t, "example", example(), api.Strong, "strong 0 1, strong 1 0")
	c := read("g = XOR(a, a); INPUT(a); q = DFF(g); z = ZERO(); INPUT(b)") // g depends on a
	expectAll(t, "a net twice", c, api.Stuck, "stuck 0 0, stuck 0 1, stuck 0.0 0, stuck 0.0 1, stuck 0.1 0, stuck 0.1 1, stuck 1 0, stuck 1 1, stuck 2 0, stuck 2 1, stuck 2.0 0, stuck 2.0 1, stuck 3 0, stuck 3 1, stuck 4 0, stuck 4 1")
	expectAll(t, "a net twice", c, api.Wired, "wired 0 2 0, wired 0 2 1, wired 0 3 0, wired 0 3 1, wired 0 4 0, wired 0 4 1, wired 1 2 0, wired 1 2 1, wired 1 3 0, wired 1 3 1, wired 1 4 0, wired 1 4 1, wired 2 3 0, wired 2 3 1, wired 2 4 0, wired 2 4 1, wired 3 4 0, wired 3 4 1")
	expectAll(t, "a net twice", c, api.Strong, "strong 0 2, strong 0 3, strong 0 4, strong 1 2, strong 1 3, strong 1 4, strong 2 0, strong 2 1, strong 2 3, strong 2 4, strong 3 0, strong 3 1, strong 3 2, strong 3 4, strong 4 0, strong 4 1, strong 4 2, strong 4 3")
	c = read("s = BUS(t, u); t = TRI(a, b); u = TRI(b, b); INPUT(a); INPUT(b); INPUT(c)")
	expectAll(t, "Tri nodes", c, api.Slow, "slow 0 0, slow 0 1, slow 0.0 0, slow 0.0 1, slow 0.1 0, slow 0.1 1, slow 1 0, slow 1 1, slow 1.0 0, slow 1.0 1, slow 1.1 0, slow 1.1 1, slow 2 0, slow 2 1, slow 2.0 0, slow 2.0 1, slow 2.1 0, slow 2.1 1, slow 3 0, slow 3 1, slow 4 0, slow 4 1, slow 5 0, slow 5 1")
	expectAll(t, "Tri nodes", c, api.Wired, "wired 0 5 0, wired 0 5 1, wired 3 4 0, wired 3 4 1, wired 3 5 0, wired 3 5 1, wired 4 5 0, wired 4 5 1")
	expectAll(t, "Tri nodes", c, api.Strong, "strong 0 5, strong 3 4, strong 3 5, strong 4 3, strong 4 5, strong 5 0, strong 5 3, strong 5 4")
	c = read("q = DFF(n); n = NOT(q); r = DFF(r)")
	expectAll(t, "Dff nodes", c, api.Wired, "wired 0 2 0, wired 0 2 1, wired 1 2 0, wired 1 2 1")
	expectAll(t, "Dff nodes", c, api.Strong, "strong 0 2, strong 1 2, strong 2 0, strong 2 1")
	for m := api.Wired; m <= api.Strong; m++ {
		expectAll(t, "one node", read("INPUT(a)"), m, "")
		expectAll(t, "a chain", read("INPUT(a); b = BUF(a); c = NOT(b); d = AND(a, c)"), m, "")
		expectAll(t, "Tri nodes only", read("t = TRI(a, a); INPUT(a); u = TRI(a, a)"), m, "")
	}
}

// TestAllAny compares All with the chapter's words, also for circuits of more nodes than a word has bits.
func TestAllAny(t *testing.T) {
	for i, c := range slices.Concat(circuits(300, 30), circuits(20, 170)) {
		for m := range api.Strong + 1 {
			l, e := All(c, m)
			if want := allOf(c, m); e != api.OK || !slices.Equal(l, want) {
				t.Errorf("circuit %d: %d faults of model %d with error %d, not %d", i, len(l), m, e, len(want))
			}
		}
	}
}

// TestAllKinds has dependence through single pins of gates with many pins.
func TestAllKinds(t *testing.T) {
	for kind := api.And; kind <= api.Xnor; kind++ {
		for pin := range api.MaxFanin {
			pins := make([]int, api.MaxFanin)
			pins[pin] = 1
			c := of(in(api.Input), in(api.Input), in(kind, pins...), in(api.Input))
			expectAll(t, "pin "+strconv.Itoa(pin), c, api.Strong, "strong 0 1, strong 0 3, strong 1 0, strong 1 3, strong 2 3, strong 3 0, strong 3 1, strong 3 2")
		}
	}
}

// expectAllError expects an error and no faults.
func expectAllError(t *testing.T, name string, c api.Circuit, m api.Model, want api.Errno) {
	t.Helper()
	if l, e := All(c, m); e != want || len(l) > 0 {
		t.Errorf("%s: %d faults of model %d with error %d, not %d", name, len(l), m, e, want)
	}
}

func TestAllErrors(t *testing.T) {
	for _, m := range models() {
		for _, x := range flaws() {
			for _, c := range flawed(x.change) {
				expectAllError(t, x.name, c, m, x.want)
			}
		}
		expectAllError(t, "a memory", withMemory(), m, api.ErrKind)
		expectAllError(t, "two memories", full(), m, api.ErrKind)
		if m > api.Strong {
			expectAllError(t, "no model", plain(), m, api.ErrArg)
			expectAllError(t, "no model and no nodes", api.Circuit{}, m, api.ErrArg)
			expectAllError(t, "no model and many lines", wide(api.MaxNodes), m, api.ErrArg)
		}
	}
	c := inputs(300)
	for m, want := range []api.Errno{api.OK, api.OK, api.ErrLimit, api.ErrLimit} {
		if l, e := All(c, api.Model(m)); e != want || (len(l) > 0) != (want == api.OK) {
			t.Errorf("300 inputs: %d faults of model %d with error %d", len(l), m, e)
		}
		c.Mems = []api.Memory{{Addr: []int{0}, Data: []int{0}}}
		expectAllError(t, "300 inputs and a memory", c, api.Model(m), api.ErrKind)
		c.Mems = nil
	}
}

// inputs returns a circuit of n Input nodes.
func inputs(n int) api.Circuit { return of(make([]api.Node, n)...) }

// chains returns a circuit of chains of Buf nodes with the given lengths, whose nodes alternate as long as there are some.
func chains(lengths ...int) api.Circuit {
	var nodes []api.Node
	last := slices.Repeat([]int{-1}, len(lengths))
	for k := range slices.Max(lengths) {
		for i, n := range lengths {
			switch {
			case k >= n:
				continue
			case k == 0:
				nodes = append(nodes, in(api.Input))
			default:
				nodes = append(nodes, in(api.Buf, last[i]))
			}
			last[i] = len(nodes) - 1
		}
	}
	return of(nodes...)
}

// lined returns a circuit with the given number of lines.
func lined(lines int) api.Circuit {
	nodes := []api.Node{in(api.Input)}
	for left := lines - 1; left > 0; {
		pins := min(left-1, api.MaxFanin)
		switch {
		case left == 1:
			nodes = append(nodes, in(api.Input))
		case pins == 1:
			nodes = append(nodes, in(api.Not, 0))
		default:
			nodes = append(nodes, in(api.Or, make([]int, pins)...))
		}
		left -= pins + 1
	}
	return of(nodes...)
}

// ascending reports whether no two faults are equal or in another order than that of the chapter.
func ascending(l []api.Fault) bool {
	for i := 1; i < len(l); i++ {
		if compareOf(l[i-1], l[i]) >= 0 {
			return false
		}
	}
	return true
}

// TestAllLimit has exactly MaxFaults faults, and a few more or less.
func TestAllLimit(t *testing.T) {
	const most = 65536
	for _, x := range []struct {
		name   string
		c      api.Circuit
		m      api.Model
		faults int
	}{
		{"lines", lined(32767), api.Stuck, most - 2},
		{"lines", lined(32768), api.Stuck, most},
		{"lines", lined(32769), api.Stuck, most + 2},
		{"lines", lined(32767), api.Slow, most - 2},
		{"lines", lined(32768), api.Slow, most},
		{"lines", lined(32769), api.Slow, most + 2},
		{"256 inputs", inputs(256), api.Wired, 65280},
		{"256 inputs", inputs(256), api.Strong, 65280},
		{"257 inputs", inputs(257), api.Wired, 65792},
		{"257 inputs", inputs(257), api.Strong, 65792},
		{"two chains", chains(7, 4681), api.Wired, most - 2},
		{"two chains", chains(7, 4681), api.Strong, most - 2},
		{"two chains", chains(256, 128), api.Wired, most},
		{"two chains", chains(128, 256), api.Strong, most},
		{"two chains", chains(16, 2048), api.Wired, most},
		{"two chains", chains(2048, 16), api.Strong, most},
		{"two chains", chains(3, 10923), api.Wired, most + 2},
		{"two chains", chains(10923, 3), api.Strong, most + 2},
		{"three chains", chains(2, 100, 319), api.Wired, 2 * (200 + 638 + 31900)},
		{"three chains", chains(2, 100, 319), api.Strong, 2 * (200 + 638 + 31900)},
		{"three chains", chains(2, 100, 320), api.Wired, 2 * (200 + 640 + 32000)},
		{"three chains", chains(2, 100, 320), api.Strong, 2 * (200 + 640 + 32000)},
	} {
		if x.faults > most {
			expectAllError(t, x.name, x.c, x.m, api.ErrLimit)
			continue
		}
		l, e := All(x.c, x.m)
		if e != api.OK || len(l) != x.faults || !ascending(l) {
			t.Errorf("%s: %d faults of model %d with error %d, not %d", x.name, len(l), x.m, e, x.faults)
		}
		if len(x.c.Nodes) < 500 && !slices.Equal(l, allOf(x.c, x.m)) {
			t.Errorf("%s: the faults of model %d are others", x.name, x.m)
		}
	}
}

// TestAllLarge has as many nodes as there may be.
func TestAllLarge(t *testing.T) {
	n := api.MaxNodes
	reversed := make([]api.Node, n)
	for i := range reversed {
		reversed[i] = in(api.Not, i+1)
	}
	reversed[n-1] = in(api.Input)
	tris := make([]api.Node, n)
	for i := range tris {
		tris[i] = in(api.Tri, 0, 0)
	}
	tris[0] = in(api.Input)
	for m := range api.Strong + 1 {
		expectAllError(t, "inputs", named(api.Circuit{Nodes: make([]api.Node, n), Mems: make([]api.Memory, 1)}), m, api.ErrWidth)
		if m >= api.Wired {
			expectAllError(t, "inputs", inputs(n), m, api.ErrLimit)
			expectAll(t, "a chain", chains(n), m, "")
			expectAll(t, "a reversed chain", of(reversed...), m, "")
			expectAll(t, "Tri nodes", of(tris...), m, "")
			expectAll(t, "many pins", wide(n), m, "")
			continue
		}
		expectAllError(t, "many pins", wide(n), m, api.ErrLimit)
		if l, e := All(chains(n), m); e != api.OK || len(l) != 4*n-2 {
			t.Errorf("a chain: %d faults with error %d", len(l), e)
		}
		expectAllError(t, "Tri nodes", of(tris...), m, api.ErrLimit)
	}
}
