package collapses_test

import (
	"reflect"
	"slices"
	"strconv"
	"testing"

	"probecard/api"
	. "probecard/collapses"
)

// P14.1

// same reports whether two lists of lists of numbers are equal.
func same(a, b [][]int) bool { return slices.EqualFunc(a, b, slices.Equal) }

// expectClasses expects classes and the first fault of each of them.
func expectClasses(t *testing.T, name string, c api.Circuit, l []api.Fault, want [][]int) {
	t.Helper()
	if got, e := Classes(c, l); e != api.OK || !same(got, want) {
		t.Errorf("%s: Classes returns %v with error %d, not %v", name, got, e, want)
	}
	var reps []api.Fault
	for _, class := range want {
		reps = append(reps, l[class[0]])
	}
	if got, e := Reps(c, l); e != api.OK || !slices.Equal(got, reps) {
		t.Errorf("%s: Reps returns %v with error %d, not %v", name, got, e, reps)
	}
}

func TestClassesExample(t *testing.T) {
	l := list("0 0, 0 1, 1 0, 1 1, 2 0, 2 1, 2.0 0, 2.0 1, 2.1 0, 2.1 1")
	expectClasses(t, "example", example(), l, [][]int{{0, 2, 4, 6, 8}, {1, 7}, {3, 9}, {5}})
	if got, e := Reps(example(), l); e != api.OK || !slices.Equal(got, list("0 0, 0 1, 1 1, 2 1")) {
		t.Errorf("Reps returns %v with error %d", got, e)
	}
}

// gate returns a circuit whose node 0 is of a kind and has so many pins, on nets of their own. All nets are outputs, so that none of them has a sole pin.
func gate(kind api.Kind, pins int) api.Circuit {
	nodes := []api.Node{in(kind)}
	outs := []int{0}
	for range pins {
		i := len(nodes)
		nodes[0].In = append(nodes[0].In, i)
		if kind == api.Bus {
			nodes[0].In[len(nodes[0].In)-1] = i + 1
			nodes = append(nodes, in(api.Input), in(api.Tri, i, i))
			outs = append(outs, i, i+1)
			continue
		}
		nodes = append(nodes, in(api.Input))
		outs = append(outs, i)
	}
	return of(outs, nodes...)
}

// gateFaults returns the stuck faults of node 0: of its output, and of each of its pins.
func gateFaults(pins int) []api.Fault {
	var l []api.Fault
	for pin := range pins + 1 {
		l = append(l, stuck(0, pin-1, 0), stuck(0, pin-1, 1))
	}
	return l
}

// gateRow is the classes of gateFaults for gates of a kind with so many pins.
type gateRow struct {
	kind    api.Kind
	pins    int
	classes string
}

// gateRows returns rows for all kinds of nodes.
func gateRows() []gateRow {
	return []gateRow{
		{api.Input, 0, "0; 1"},
		{api.Zero, 0, "0; 1"},
		{api.One, 0, "0; 1"},
		{api.Buf, 1, "0 2; 1 3"},
		{api.Not, 1, "0 3; 1 2"},
		{api.And, 2, "0 2 4; 1; 3; 5"},
		{api.And, 3, "0 2 4 6; 1; 3; 5; 7"},
		{api.And, 16, "0 2 4 6 8 10 12 14 16 18 20 22 24 26 28 30 32; 1; 3; 5; 7; 9; 11; 13; 15; 17; 19; 21; 23; 25; 27; 29; 31; 33"},
		{api.Nand, 2, "0; 1 2 4; 3; 5"},
		{api.Nand, 3, "0; 1 2 4 6; 3; 5; 7"},
		{api.Nand, 5, "0; 1 2 4 6 8 10; 3; 5; 7; 9; 11"},
		{api.Or, 2, "0; 1 3 5; 2; 4"},
		{api.Or, 3, "0; 1 3 5 7; 2; 4; 6"},
		{api.Or, 4, "0; 1 3 5 7 9; 2; 4; 6; 8"},
		{api.Nor, 2, "0 3 5; 1; 2; 4"},
		{api.Nor, 3, "0 3 5 7; 1; 2; 4; 6"},
		{api.Nor, 6, "0 3 5 7 9 11 13; 1; 2; 4; 6; 8; 10; 12"},
		{api.Xor, 2, "0; 1; 2; 3; 4; 5"},
		{api.Xor, 3, "0; 1; 2; 3; 4; 5; 6; 7"},
		{api.Xnor, 2, "0; 1; 2; 3; 4; 5"},
		{api.Xnor, 4, "0; 1; 2; 3; 4; 5; 6; 7; 8; 9"},
		{api.Mux, 3, "0; 1; 2; 3; 4; 5; 6; 7"},
		{api.Tri, 2, "0; 1; 2; 3; 4; 5"},
		{api.Bus, 1, "0 2; 1 3"},
		{api.Bus, 2, "0; 1; 2; 3; 4; 5"},
		{api.Bus, 3, "0; 1; 2; 3; 4; 5; 6; 7"},
		{api.Dff, 1, "0; 1; 2; 3"},
	}
}

// TestClassesRows has all kinds of nodes, whose nets are all outputs.
func TestClassesRows(t *testing.T) {
	for _, x := range gateRows() {
		name := "kind " + strconv.Itoa(int(x.kind)) + " of " + strconv.Itoa(x.pins) + " pins"
		expectClasses(t, name, gate(x.kind, x.pins), gateFaults(x.pins), lists(x.classes))
	}
}

// TestClassesPairs has each two faults of a node alone.
func TestClassesPairs(t *testing.T) {
	for _, x := range gateRows() {
		l, classes := gateFaults(x.pins), lists(x.classes)
		for a := range l {
			for b := range l {
				want := [][]int{{0}, {1}}
				if slices.ContainsFunc(classes, func(class []int) bool { return slices.Contains(class, a) && slices.Contains(class, b) }) {
					want = [][]int{{0, 1}}
				}
				name := "kind " + strconv.Itoa(int(x.kind)) + ", " + strconv.Itoa(a) + " and " + strconv.Itoa(b)
				expectClasses(t, name, gate(x.kind, x.pins), []api.Fault{l[a], l[b]}, want)
			}
		}
	}
}

// TestClassesLoads has nets with one load, with none, and with several.
func TestClassesLoads(t *testing.T) {
	for _, x := range []struct{ circuit, faults, want string }{
		{"INPUT(a); INPUT(b); g = XOR(a, b)", "0 0, 0 1, 2.0 0, 2.0 1, 2 0, 2 1", "0 2; 1 3; 4; 5"},
		{"INPUT(a); INPUT(b); g = XOR(a, b)", "1 0, 1 1, 2.1 0, 2.1 1, 2.0 0, 2.0 1", "0 2; 1 3; 4; 5"},
		{"INPUT(a); INPUT(b); g = XOR(a, b); OUTPUT(g)", "0 0, 0 1, 2.0 0, 2.0 1, 2 0, 2 1", "0 2; 1 3; 4; 5"},
		{"INPUT(a); INPUT(b); g = XOR(a, b); OUTPUT(a)", "0 0, 0 1, 2.0 0, 2.0 1, 1 0, 2.1 0", "0; 1; 2; 3; 4 5"},
		{"INPUT(a); INPUT(b); g = XOR(a, b); OUTPUT(b)", "0 0, 0 1, 2.0 0, 2.0 1, 1 0, 2.1 0", "0 2; 1 3; 4; 5"},
		{"INPUT(a); INPUT(b); g = XOR(a, b); OUTPUT(a); OUTPUT(a)", "0 0, 0 1, 2.0 0, 2.0 1", "0; 1; 2; 3"},
		{"INPUT(a); g = XOR(a, a)", "0 0, 0 1, 1.0 0, 1.0 1, 1.1 0, 1.1 1", "0; 1; 2; 3; 4; 5"},
		{"INPUT(a); g = AND(a, a)", "0 0, 0 1, 1.0 0, 1.0 1, 1.1 0, 1.1 1, 1 0", "0; 1; 2 4 6; 3; 5"},
		{"INPUT(a); INPUT(b); g = XOR(a, b); h = XOR(a, b, b)", "0 0, 2.0 0, 3.0 0, 0 1, 2.0 1, 3.0 1", "0; 1; 2; 3; 4; 5"},
		{"INPUT(a); g = NOT(a); h = BUF(a)", "0 0, 1.0 0, 2.0 0, 1 1, 2 0", "0; 1 3; 2 4"},
		{"INPUT(a)", "0 0, 0 1", "0; 1"},
		{"INPUT(a); OUTPUT(a)", "0 0, 0 1", "0; 1"},
		{"INPUT(a); OUTPUT(a); OUTPUT(a)", "0 0, 0 1", "0; 1"},
		{"z = ZERO(); o = ONE(); m = MUX(z, o, o)", "0 0, 2.0 0, 0 1, 2.0 1, 1 0, 2.1 0, 2.2 0", "0 1; 2 3; 4; 5; 6"},
		{"INPUT(a); q = DFF(a); OUTPUT(q)", "0 0, 0 1, 1.0 0, 1.0 1, 1 0, 1 1", "0 2; 1 3; 4; 5"},
		{"INPUT(a); q = DFF(a); r = DFF(a)", "0 0, 1.0 0, 2.0 0", "0; 1; 2"},
		{"INPUT(a); q = DFF(a); OUTPUT(a)", "0 0, 1.0 0, 0 1, 1.0 1", "0; 1; 2; 3"},
		{"q = DFF(q)", "0 0, 0.0 0, 0 1, 0.0 1", "0 1; 2 3"},
		{"q = DFF(q); OUTPUT(q)", "0 0, 0.0 0, 0 1, 0.0 1", "0; 1; 2; 3"},
		{"q = DFF(r); r = DFF(q)", "0 0, 1.0 0, 1 0, 0.0 0, 1 1, 0.0 1", "0 1; 2 3; 4 5"},
		{"q = DFF(n); n = NOT(q)", "0 0, 1.0 0, 1 1, 0.0 1, 0 1, 1.0 1, 1 0, 0.0 0", "0 1 2 3; 4 5 6 7"},
		{"q = DFF(n); n = NOT(q); OUTPUT(n)", "0 0, 1.0 0, 1 1, 0.0 1, 0 1, 1.0 1, 1 0, 0.0 0", "0 1 2; 3; 4 5 6; 7"},
		{"INPUT(e); INPUT(d); t = TRI(e, d); s = BUS(t); OUTPUT(s)", "2 0, 3.0 0, 3 0, 2 1, 3.0 1, 3 1, 0 0, 2.0 0, 1 1, 2.1 1", "0 1 2; 3 4 5; 6 7; 8 9"},
		{"INPUT(e); INPUT(d); t = TRI(e, d); s = BUS(t, t); OUTPUT(s)", "2 0, 3.0 0, 3.1 0, 3 0", "0; 1; 2; 3"},
		{"INPUT(e); INPUT(d); t = TRI(e, d); s = BUS(t); r = BUS(t)", "2 0, 3.0 0, 4.0 0, 3 0, 4 0", "0; 1 3; 2 4"},
		{"INPUT(e); INPUT(d); t = TRI(e, d); u = TRI(e, d); s = BUS(t, u); OUTPUT(s)", "2 0, 4.0 0, 3 1, 4.1 1, 4 0, 4 1, 0 0, 2.0 0, 3.0 0", "0 1; 2 3; 4; 5; 6; 7; 8"},
		{"INPUT(e); INPUT(d); t = TRI(e, d); OUTPUT(t); s = BUS(t)", "2 1, 3.0 1, 3 1", "0; 1 2"},
	} {
		expectClasses(t, x.circuit, read(x.circuit), list(x.faults), lists(x.want))
	}
}

// chained is a circuit with a chain from a to h over several kinds of nodes: a (0), n (2), g (3), k (5), h (6).
const chained = "INPUT(a); INPUT(b); n = NOT(a); g = NAND(n, b); INPUT(c); k = NOR(c, g); h = BUF(k); OUTPUT(h)"

// TestClassesChains has faults that are equivalent over several nodes, in lists that have all or only some of them.
func TestClassesChains(t *testing.T) {
	for _, x := range []struct{ circuit, faults, want string }{
		{chained, "0 0, 0 1, 1 0, 1 1, 2 0, 2 1, 2.0 0, 2.0 1, 3 0, 3 1, 3.0 0, 3.0 1, 3.1 0, 3.1 1, 4 0, 4 1, 5 0, 5 1, 5.0 0, 5.0 1, 5.1 0, 5.1 1, 6 0, 6 1, 6.0 0, 6.0 1",
			"0 5 6 11; 1 2 4 7 9 10 12 15 16 19 21 22 24; 3 13; 8 20; 14 18; 17 23 25"},
		{chained, "0 1, 6 0", "0 1"},
		{chained, "6 0, 0 1", "0 1"},
		{chained, "0 1, 4 1", "0 1"},
		{chained, "1 0, 5.0 1, 2.0 0", "0 1; 2"},
		{chained, "0 1, 0 0, 6 0, 6 1, 1 0", "0 2 4; 1; 3"},
		{chained, "6.0 1, 1 1, 6 1, 3.1 1, 0 0", "0 2; 1 3; 4"},
		{"INPUT(a); b = BUF(a); c = BUF(b); d = BUF(c); OUTPUT(d); e = NOT(b)", "0 0, 1 0, 2 0, 3 0, 2.0 0, 3.0 0, 4 1, 4.0 0", "0 1; 2 3 4 5; 6 7"},
		{"INPUT(a); b = BUF(a); c = BUF(b); d = BUF(c); OUTPUT(d); OUTPUT(b)", "0 0, 1 0, 2 0, 3 0, 2.0 0, 3.0 0, 1.0 0", "0 1 6; 2 3 4 5"},
		{"INPUT(a); b = NOT(a); q = DFF(b); c = NOT(q); OUTPUT(c)", "0 0, 1 1, 2.0 1, 2 0, 3.0 0, 3 1, 3 0", "0 1 2; 3 4 5; 6"},
		{"INPUT(a); INPUT(b); g = AND(a, b); h = OR(a, b); k = AND(g, h); OUTPUT(k)", "0 0, 2.0 0, 2.1 0, 2 0, 3 0, 4 0, 4.0 0, 4.1 0, 3.0 0, 3.0 1, 3.1 1, 3 1, 4.1 1", "0; 1 2 3 4 5 6 7; 8; 9 10 11 12"},
		{"INPUT(a); INPUT(b); g = NOR(a, b); h = NOR(g, g); OUTPUT(h)", "0 1, 1 1, 2 0, 3.0 0, 3.1 0, 3.0 1, 3.1 1, 3 0", "0 1 2; 3; 4; 5 6 7"},
	} {
		expectClasses(t, x.circuit+": "+x.faults, read(x.circuit), list(x.faults), lists(x.want))
	}
}

// TestClassesLists has lists in several orders, with repeated faults, with faults of other models and with none.
func TestClassesLists(t *testing.T) {
	const two = "INPUT(a); INPUT(b); n = NOT(a); OUTPUT(n)"
	for _, x := range []struct{ circuit, faults, want string }{
		{chained, "", ""},
		{chained, "0 0", "0"},
		{chained, "0 0, 0 0", "0 1"},
		{chained, "0 0, 0 0, 6 1, 0 0, 2 1, 6 1, 2 1", "0 1 3 4 6; 2 5"},
		{two, "2 1, 2 0, 1 1, 1 0, 0 1, 0 0, 2.0 1, 2.0 0", "0 5 7; 1 4 6; 2; 3"},
		{two, "slow 0 0, slow 2.0 0, slow 2 1, slow 0 0, slow 0 1, 0 0, 2 1, slow 2 1", "0 3; 1; 2 7; 4; 5 6"},
		{two, "wired 0 1 0, strong 0 1, strong 1 0, wired 0 1 1, wired 1 2 0, wired 0 1 0, strong 1 0, 0 0, slow 0 0", "0 5; 1; 2 6; 3; 4; 7; 8"},
		{two, "wired 0 1 1, wired 0 1 0, strong 0 1, strong 2 1, strong 1 2, strong 2 1, strong 0 1", "0; 1; 2 6; 3 5; 4"},
		{"INPUT(a); g = AND(a, a)", "slow 1.0 0, slow 1.1 0, slow 1 0, 1 0, 1.0 0, 1.1 0, slow 1 1, slow 1.0 1, slow 0 0", "0; 1; 2; 3 4 5; 6; 7; 8"},
		{"INPUT(a); g = BUF(a)", "slow 0 1, slow 1.0 1, slow 1 1, 1 1, 1.0 1, 0 1, slow 1 1, 0 1", "0; 1; 2 6; 3 4 5 7"},
	} {
		expectClasses(t, x.circuit+": "+x.faults, read(x.circuit), list(x.faults), lists(x.want))
	}
	expectClasses(t, "without nodes", api.Circuit{}, nil, nil)
	expectClasses(t, "an empty list", example(), []api.Fault{}, nil)
}

// TestClassesRandom compares the classes of random circuits with the chapter's words.
func TestClassesRandom(t *testing.T) {
	r := random(142)
	for i, c := range circuits(500, 25) {
		for k, l := range r.faultLists(c) {
			name := "circuit " + strconv.Itoa(i) + ", list " + strconv.Itoa(k)
			expectClasses(t, name, c, l, classesOf(c, l))
			if got, e := Reps(c, l); e != api.OK || !slices.Equal(got, repsOf(c, l)) {
				t.Errorf("%s: Reps returns %v with error %d", name, got, e)
			}
		}
	}
}

// TestClassesOrder checks for random circuits that each index is in one class, and the order of classes and within them.
func TestClassesOrder(t *testing.T) {
	r := random(143)
	most := 0
	for i, c := range circuits(300, 40) {
		for _, l := range r.faultLists(c) {
			classes, _ := Classes(c, l)
			seen, last := make([]int, len(l)), -1
			for _, class := range classes {
				if len(class) == 0 || class[0] <= last || !slices.IsSorted(class) {
					t.Errorf("circuit %d: %v", i, classes)
					break
				}
				last = class[0]
				most = max(most, len(class))
				for _, k := range class {
					seen[k]++
				}
			}
			if slices.ContainsFunc(seen, func(n int) bool { return n != 1 }) {
				t.Errorf("circuit %d: %v", i, classes)
			}
		}
	}
	if most < 12 {
		t.Errorf("no class has more than %d faults", most)
	}
}

// TestClassesLarge has a chain of as many nodes as there may be, with all of its stuck faults and as many faults as a list may have.
func TestClassesLarge(t *testing.T) {
	nodes := []api.Node{in(api.Input)}
	for len(nodes) < api.MaxNodes {
		nodes = append(nodes, in([]api.Kind{api.Not, api.Buf, api.Not}[len(nodes)%3], len(nodes)-1))
	}
	c := of([]int{api.MaxNodes - 1}, nodes...)
	l := all(c, api.Stuck)
	l = append(l, l[:api.MaxFaults-len(l)]...)
	inverted := make([]api.Value, len(nodes)) // 1 for nets behind an odd number of Not nodes
	for i, n := range nodes[1:] {
		inverted[i+1] = inverted[i]
		if n.Kind == api.Not {
			inverted[i+1] = 1 - inverted[i]
		}
	}
	want := make([][]int, 2)
	for i, f := range l {
		net := f.Line.Node
		if f.Line.Pin == 0 {
			net--
		}
		k := f.Value ^ inverted[net]
		want[k] = append(want[k], i)
	}
	if got, e := Classes(c, l); e != api.OK || !reflect.DeepEqual(got, want) {
		t.Errorf("%d classes, error %d", len(got), e)
	}
	if got, e := Reps(c, l); e != api.OK || !slices.Equal(got, list("0 0, 0 1")) {
		t.Errorf("Reps returns %d faults with error %d", len(got), e)
	}
	slices.Reverse(l)
	if got, e := Classes(c, l); e != api.OK || len(got) != 2 || len(got[0])+len(got[1]) != api.MaxFaults {
		t.Errorf("%d classes in reverse order, error %d", len(got), e)
	}
}
