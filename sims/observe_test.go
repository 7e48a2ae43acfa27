package sims_test

import (
	"math"
	"slices"
	"strconv"
	"testing"

	"probecard/api"
	"probecard/logic"
	. "probecard/sims"
)

// P6.3

// expectObserve checks the response of any circuit for any values, and its Bus nodes that are in conflict.
func expectObserve(t *testing.T, name string, c api.Circuit, nets []api.Value) {
	t.Helper()
	if got, want := Observe(c, nets), responseOf(c, nets); !sameResponse(got, want) {
		t.Errorf("%s: Observe for %v returns %v, not %v", name, nets, got, want)
	}
	if got, want := Conflicts(c, nets), conflictsOf(c, nets); !slices.Equal(got, want) {
		t.Errorf("%s: Conflicts for %v returns %v, not %v", name, nets, got, want)
	}
}

// expectResponse checks the response of any circuit for any values.
func expectResponse(t *testing.T, name string, c api.Circuit, nets []api.Value, out, next string) {
	t.Helper()
	r := Observe(c, nets)
	if logic.Text(r.Out...) != out || logic.Text(r.Next...) != next || slices.Max(append(slices.Concat(r.Out, r.Next), 0)) > api.VZ {
		t.Errorf("%s: Observe for %v returns %v, not %s and %s", name, nets, r, out, next)
	}
}

func TestObserveExample(t *testing.T) {
	expectResponse(t, "example", example(), values("10Z1Z"), "1X", "1")
	expectResponse(t, "example", example(), values("0111ZZ"), "1Z", "1")
	expectResponse(t, "example", example(), values("XXXZX0"), "Z0", "X")
}

// TestObserveValues has all values of a byte at an output and at a Dff.
func TestObserveValues(t *testing.T) {
	c := of([]int{0, 1, 0}, in(api.Dff, 0), in(api.Dff, 1))
	for v := range 256 {
		out, next := "X", "X"
		if v < 4 {
			out, next = "01XZ"[v:v+1], "01XX"[v:v+1]
		}
		expectResponse(t, "byte", c, []api.Value{api.Value(v), 1}, out+"1"+out, next+"1")
		expectResponse(t, "byte", c, []api.Value{0, api.Value(v)}, "0"+out+"0", "0"+next)
	}
}

// TestObserveLengths has fewer and more values than nets: those that are missing count as X, and further ones do not matter to nets.
func TestObserveLengths(t *testing.T) {
	nets := values("100X0ZX101011101XX0Z1" + "0101")
	for n := range len(nets) + 1 {
		expectObserve(t, strconv.Itoa(n)+" values", full(), nets[:n])
	}
	expectResponse(t, "no values", full(), nil, "XXXXXXX", "XXX")
	expectResponse(t, "all values", full(), nets, "X1X1Z01", "XX1")
	expectResponse(t, "some values", full(), nets[:15], "XXX1X01", "XX1")
	expectResponse(t, "few values", full(), nets[:7], "XXXXX0X", "XXX")
	expectResponse(t, "a value", of([]int{1, 0}, in(api.Dff, 1), in(api.Dff, 0)), values("1"), "X1", "X1")
}

// TestObserveOutside has outputs and pins that are not nets. Indices into the values have a value nevertheless.
func TestObserveOutside(t *testing.T) {
	for _, net := range wrong(4) {
		c := api.Circuit{Nodes: []api.Node{in(api.Dff, net), in(api.Dff, 3), {}, {}}, Outs: []int{net, 2, net, 3}}
		expectResponse(t, "outside "+strconv.Itoa(net), c, values("1110"), "X1X0", "X0")
		expectResponse(t, "outside "+strconv.Itoa(net), c, nil, "XXXX", "XX")
	}
	c := api.Circuit{Nodes: []api.Node{in(api.Dff, 1), in(api.Dff, 3), in(api.Dff, -1), in(api.Dff, 5)}, Outs: []int{4, 5, 6, -1}}
	expectResponse(t, "values of no net", c, values("010Z1Z"), "1ZXX", "1XXX")
	expectResponse(t, "values of no net", c, values("011111"), "11XX", "11X1")
	c.Nodes = nil
	expectResponse(t, "no nodes", c, values("010Z10"), "10XX", "")
}

// TestObservePins has Dff nodes with no input and with several.
func TestObservePins(t *testing.T) {
	c := api.Circuit{Nodes: []api.Node{in(api.Dff), in(api.Dff, 0), in(api.Dff, 0, 0), in(api.Dff, 1, 0, -1), in(api.Dff, 9, 0), {Kind: api.Dff, In: []int{1}, Mem: 4, Bit: -1}}}
	for v, read := range map[api.Value]string{0: "0", 1: "1", 2: "X", 3: "X", 4: "X"} {
		expectResponse(t, "pins", c, slices.Repeat([]api.Value{v}, 6), "", "X"+read+"XXX"+read)
	}
}

// TestObserveKinds has nodes of every kind of a byte, of which only Dff nodes have a place in Next.
func TestObserveKinds(t *testing.T) {
	for kind := range 256 {
		c := api.Circuit{Nodes: []api.Node{in(api.Kind(kind), 1), in(api.Dff, 0)}, Outs: []int{0}}
		next := "1"
		if kind == int(api.Dff) {
			next = "01"
		}
		expectResponse(t, "kind "+strconv.Itoa(kind), c, values("10"), "1", next)
	}
}

// TestObserveAnyValues has circuits, valid or not, with values that no pattern leads to.
func TestObserveAnyValues(t *testing.T) {
	r := random(21)
	valid := append(circuits(200, 30), withMemory(), withMemNode())
	for _, f := range flaws() {
		for _, c := range flawed(f.change) {
			expectObserve(t, f.name, c, r.values(min(len(c.Nodes), 50), 6))
		}
	}
	for range 5 {
		for i, c := range valid {
			expectObserve(t, "circuit "+strconv.Itoa(i), c, r.values(len(c.Nodes), 6))
		}
	}
	for range 5000 {
		c := r.broken()
		expectObserve(t, "broken", c, r.values(r.below(len(c.Nodes)+5), 6))
	}
}

// TestObserveLarge has more nodes, outputs and pins than a valid circuit can have.
func TestObserveLarge(t *testing.T) {
	const n = 3 * api.MaxNodes
	c := api.Circuit{Nodes: make([]api.Node, n), Outs: make([]int, n)}
	nets := make([]api.Value, n)
	for i := range c.Nodes {
		c.Nodes[i], c.Outs[i], nets[i] = in(api.Dff, n-1-i), n-i, api.Value(i%4)
	}
	c.Nodes[5] = in(api.Bus, c.Outs...)
	r := Observe(c, nets)
	if len(r.Out) != n || len(r.Next) != n-1 || logic.Text(r.Out[:5]...) != "XZX10" || logic.Text(r.Next[:6]...) != "XX10X1" {
		t.Errorf("%d outputs %v, %d states %v", len(r.Out), r.Out[:5], len(r.Next), r.Next[:6])
	}
	if l := Conflicts(c, nets); !slices.Equal(l, []int{5}) {
		t.Errorf("Conflicts returns %v", l)
	}
}

// bus returns a circuit of drivers and, behind them, a Bus node with the given pins.
func bus(drivers int, pins ...int) api.Circuit {
	nodes := make([]api.Node, drivers)
	for i := range nodes {
		nodes[i] = in(api.Tri, 0, 0)
	}
	return of(nil, append(nodes, in(api.Bus, pins...))...)
}

// expectConflict checks whether the last node of a circuit is in conflict.
func expectConflict(t *testing.T, name string, c api.Circuit, nets []api.Value, want bool) {
	t.Helper()
	var nodes []int
	if want {
		nodes = []int{len(c.Nodes) - 1}
	}
	if l := Conflicts(c, nets); !slices.Equal(l, nodes) {
		t.Errorf("%s: Conflicts for %v returns %v, not %v", name, nets, l, nodes)
	}
}

// TestConflictsPairs has all two values of a byte at two pins.
func TestConflictsPairs(t *testing.T) {
	c := bus(2, 0, 1)
	for a := range 256 {
		for b := range 256 {
			expectConflict(t, "pair", c, []api.Value{api.Value(a), api.Value(b)}, a+b == 1)
			expectConflict(t, "pair", c, []api.Value{api.Value(a), api.Value(b), 0}, a+b == 1)
			expectConflict(t, "pair", c, []api.Value{api.Value(a), api.Value(b), 1}, a+b == 1)
		}
	}
}

// TestConflictsLists has up to four drivers of all values, and a conflict between any two of many pins.
func TestConflictsLists(t *testing.T) {
	for n := range 5 {
		for i := range 1 << (2 * n) {
			l := digits(i, n)
			expectConflict(t, "list", bus(n, upTo(n)...), l, slices.Contains(l, 0) && slices.Contains(l, 1))
		}
	}
	const most = api.MaxFanin + 4
	for i := range most {
		for k := range most {
			nets := slices.Repeat(values("XZ"), most/2)
			nets[i], nets[k] = 0, 1
			expectConflict(t, "many pins", bus(most, upTo(most)...), nets, i != k)
		}
	}
}

// upTo returns the numbers from 0 to n-1.
func upTo(n int) []int {
	l := make([]int, n)
	for i := range l {
		l[i] = i
	}
	return l
}

// TestConflictsPins has the same value twice, the same net twice, pins that are not nets, and values that are missing.
func TestConflictsPins(t *testing.T) {
	for _, x := range []struct {
		pins []int
		nets string
		want bool
	}{
		{nil, "01", false},
		{[]int{0}, "01", false},
		{[]int{0, 0, 0}, "01", false},
		{[]int{0, 1, 0}, "00", false},
		{[]int{0, 1, 1}, "11", false},
		{[]int{0, 1, 1}, "01", true},
		{[]int{1, 1, 0}, "01", true},
		{[]int{0, 1}, "0", false},
		{[]int{0, 1}, "", false},
		{[]int{1, 0}, "1", false},
		{[]int{0, 2}, "010", false}, // its own net
		{[]int{0, 2}, "0X1", true},
		{[]int{0, 3}, "0XX1", true}, // a value of no net
		{[]int{3, 4}, "00001", true},
		{[]int{4, 5}, "00001", false},
		{[]int{0, -1, 99, 1}, "01", true},
		{[]int{0, -1, 99}, "01", false},
		{[]int{1, math.MaxInt, math.MinInt}, "01", false},
	} {
		expectConflict(t, "pins "+x.nets, bus(2, x.pins...), values(x.nets), x.want)
	}
}

// TestConflictsNodes has Bus nodes of which some are in conflict, and nodes of every kind of a byte that read the same nets.
func TestConflictsNodes(t *testing.T) {
	c := api.Circuit{Nodes: []api.Node{in(api.Bus, 1, 2), {}, {}, in(api.Bus, 1, 4), {}, in(api.Bus, 2, 1, 4), in(api.Bus, 2, 2), in(api.Bus, 4, 2)}}
	for nets, want := range map[string][]int{"X01X0": {0, 5, 7}, "X01X1": {0, 3, 5}, "X00X1": {3, 5, 7}, "X11X1": nil, "X0ZX1": {3, 5}, "X1XXZ": nil} {
		if l := Conflicts(c, values(nets)); !slices.Equal(l, want) {
			t.Errorf("Conflicts for %s returns %v, not %v", nets, l, want)
		}
	}
	for kind := range 256 {
		c := api.Circuit{Nodes: []api.Node{{}, {}, in(api.Kind(kind), 0, 1)}}
		expectConflict(t, "kind "+strconv.Itoa(kind), c, values("01"), kind == int(api.Bus))
		expectConflict(t, "kind "+strconv.Itoa(kind), c, values("01X"), kind == int(api.Bus))
	}
}

// TestConflictsRun has the values of patterns: a Bus node that is in conflict has the value X.
func TestConflictsRun(t *testing.T) {
	expectConflict(t, "one driver", example(), values("101111"), false)
	r := random(22)
	conflicts, free := 0, 0
	for i, c := range circuits(300, 40) {
		for range 10 {
			_, nets, _ := Run(c, r.pattern(c, 3))
			l := Conflicts(c, nets)
			conflicts += len(l)
			free += count(c, api.Bus) - len(l)
			for _, node := range l {
				if c.Nodes[node].Kind != api.Bus || nets[node] != api.VX {
					t.Errorf("circuit %d: node %d is in conflict with the value %d", i, node, nets[node])
				}
			}
		}
	}
	if conflicts < 30 || free < 300 {
		t.Errorf("%d nodes in conflict, %d not", conflicts, free)
	}
}
