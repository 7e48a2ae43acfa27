package deductives_test

import (
	"slices"
	"strconv"
	"testing"

	"probecard/api"
	. "probecard/deductives"
)

// P16.2

// expectDetected expects the detected faults, ascending.
func expectDetected(t *testing.T, name string, c api.Circuit, l []api.Fault, p api.Pattern, want []int) {
	t.Helper()
	got, e := Detected(c, l, p)
	if e != api.OK || !slices.Equal(got, want) {
		t.Errorf("%s, %v: %s with error %d, not %s", name, p, texts(l, got), e, texts(l, want))
	}
	if !isAscending(got) {
		t.Errorf("%s, %v: %v does not ascend", name, p, got)
	}
}

// expectDetectedOf expects what the chapter's words say.
func expectDetectedOf(t *testing.T, name string, c api.Circuit, l []api.Fault, p api.Pattern) {
	t.Helper()
	_, want := resultsOf(c, l, p)
	expectDetected(t, name, c, l, p, want)
}

// expectSeen expects which of all stuck faults of a circuit are detected, as a text.
func expectSeen(t *testing.T, name string, c api.Circuit, p, want string) {
	t.Helper()
	l := all(c, api.Stuck)
	got, e := Detected(c, l, patternOf(p))
	if s := texts(l, got); s != want || e != api.OK {
		t.Errorf("%s, %s: %s with error %d, not %s", name, p, s, e, want)
	}
	expectDetectedOf(t, name, c, l, patternOf(p))
}

// TestDetectedExample has the chapter's example, and the other patterns of its circuit.
func TestDetectedExample(t *testing.T) {
	c := example()
	expectDetected(t, "example", c, all(c, api.Stuck), patternOf("01"), []int{1, 5, 7})
	expectDetected(t, "example", c, all(c, api.Stuck), patternOf("10"), []int{3, 5, 9})
	expectDetected(t, "example", c, all(c, api.Stuck), patternOf("00"), []int{5})
	expectDetected(t, "example", c, all(c, api.Stuck), patternOf("11"), []int{0, 2, 4, 6, 8})
}

// TestDetectedOuts shows different nets of a circuit: a fault is seen at the first, the last or any element, and not elsewhere.
func TestDetectedOuts(t *testing.T) {
	for _, x := range []struct {
		outs []int
		want string
	}{
		{nil, ""},
		{[]int{0}, "0 1"},
		{[]int{1}, "1 0"},
		{[]int{2}, "0 1, 2 1, 2.0 1"},
		{[]int{3}, "1 0, 3 1, 3.0 0"},
		{[]int{4}, "0 1, 1 0, 2 1, 2.0 1, 3 1, 3.0 0, 4 1, 4.0 1, 4.1 1"},
		{[]int{0, 3}, "0 1, 1 0, 3 1, 3.0 0"},
		{[]int{3, 0}, "0 1, 1 0, 3 1, 3.0 0"},
		{[]int{3, 3, 1, 3, 0}, "0 1, 1 0, 3 1, 3.0 0"},
		{[]int{0, 1, 2, 3, 4}, "0 1, 1 0, 2 1, 2.0 1, 3 1, 3.0 0, 4 1, 4.0 1, 4.1 1"},
	} {
		// the values of the nets are 0 1 0 0 0
		c := read("INPUT(a); INPUT(b); g = AND(a, b); n = NOT(b); h = OR(g, n)")
		c.Outs = x.outs
		expectSeen(t, "outputs", c, "01", x.want)
	}
}

// TestDetectedState has faults that are seen at the data of Dff nodes, at their pins alone, or nowhere.
func TestDetectedState(t *testing.T) {
	c := read(stateful)
	expectSeen(t, "stateful", c, "0 110", "0 0, 0.0 0, 1 1, 2 0, 2.0 0, 2.1 1, 3 0, 3.0 0, 4.0 1")
	expectSeen(t, "stateful", c, "1 011", "0 1, 0.0 0, 1 0, 2 0, 2.0 1, 2.1 0, 3 0, 3.0 0, 4.0 0")
	c.Outs = []int{5}
	expectSeen(t, "stateful with an output", c, "0 110", "0 0, 0.0 0, 1 1, 2 0, 2.0 0, 2.1 1, 3 0, 3.0 0, 4 1, 4.0 1, 5 1, 5.1 1")
	c.Outs = []int{6, 6}
	expectSeen(t, "stateful with another output", c, "0 110", "0 0, 0.0 0, 1 1, 2 0, 2.0 0, 2.1 1, 3 0, 3.0 0, 4.0 1, 6 1, 6.0 0")
	expectSeen(t, "a state", of(nil, in(api.Dff, 0)), " 0", "0 1, 0.0 1")
	expectSeen(t, "a state", of([]int{0}, in(api.Dff, 0)), " 1", "0 0, 0.0 0")
}

// TestDetectedPins has several Dff nodes of one net: a fault at one of their pins is seen there alone.
func TestDetectedPins(t *testing.T) {
	// the nodes are 0 a, 1 q, 2 r and 3 g
	c := read("INPUT(a); q = DFF(a); r = DFF(a); g = NAND(q, r)")
	expectSeen(t, "two states", c, "0 11", "0 1, 1.0 1, 2.0 1")
	expectSeen(t, "two states", c, "1 00", "0 0, 1.0 0, 2.0 0")
	expectSeen(t, "two states", c, "1 11", "0 0, 1.0 0, 2.0 0")
	c.Outs = []int{3}
	expectSeen(t, "two states with an output", c, "0 11", "0 1, 1 0, 1.0 1, 2 0, 2.0 1, 3 1, 3.0 0, 3.1 0")
	for _, x := range []struct {
		pattern, faults string
		want            []int
	}{
		{"0 01", "1.0 1", []int{0}}, {"0 01", "1.0 0", nil}, {"1 01", "2.0 0, 1.0 1, 1.0 0", []int{0, 2}}, {"1 10", "2.0 1, 1.0 1", nil},
		{"0 00", "3 0, 1 1, 2 1, 3.0 1", []int{0}}, {"0 11", "1.0 1, 1.0 1, 1.0 0, 1.0 1", []int{0, 1, 3}},
	} {
		expectDetected(t, x.faults, c, list(x.faults), patternOf(x.pattern), x.want)
	}
}

// TestDetectedNowhere has faults that are in fault lists, but change nothing that is shown: without outputs, before a net that does not change, and on a net that only a Dff's other side reads.
func TestDetectedNowhere(t *testing.T) {
	c := gates()
	c.Outs = nil
	for i, n := range c.Nodes {
		if n.Kind == api.Dff {
			c.Nodes[i] = in(api.Input)
		}
	}
	r := random(171)
	for range 10 {
		p := r.full(c)
		if lists, _ := resultsOf(c, all(c, api.Stuck), p); len(slices.Concat(lists...)) < len(c.Nodes) {
			t.Errorf("too few faults in %v", lists)
		}
		expectDetected(t, "nothing is shown", c, all(c, api.Stuck), p, nil)
	}
	// the nodes are 0 a, 1 n, 2 x and 3 d
	c = read("INPUT(a); n = NOT(a); x = XOR(a, n, d); d = ZERO(); OUTPUT(x)")
	expectLists(t, "cancelled", c, list("0 0, 0 1"), patternOf("1"), [][]int{{0}, {0}, nil, nil})
	expectDetected(t, "cancelled", c, list("0 0, 0 1"), patternOf("1"), nil)
	expectSeen(t, "cancelled", c, "1", "1 1, 1.0 0, 2 0, 2.0 0, 2.1 1, 2.2 1, 3 1")
	// the nodes are 0 a, 1 q and 2 b
	c = read("INPUT(a); q = DFF(a); b = BUF(q)")
	expectLists(t, "behind a Dff", c, list("1 1, 2 1, 2.0 1"), patternOf("1 0"), [][]int{nil, {0}, {0, 1, 2}})
	expectDetected(t, "behind a Dff", c, list("1 1, 2 1, 2.0 1"), patternOf("1 0"), nil)
}

// TestDetectedFew has no faults, and each fault alone.
func TestDetectedFew(t *testing.T) {
	r := random(172)
	for i, c := range circuits(60, 20) {
		name := "circuit " + strconv.Itoa(i)
		p := r.full(c)
		expectDetected(t, name, c, nil, p, nil)
		expectDetected(t, name, c, []api.Fault{}, p, nil)
		for _, f := range all(c, api.Stuck) {
			expectDetectedOf(t, name, c, []api.Fault{f}, p)
		}
	}
	expectDetected(t, "example", example(), list("2.0 1"), patternOf("01"), []int{0})
	expectDetected(t, "example", example(), list("2.0 0"), patternOf("01"), nil)
	expectDetected(t, "without nodes", api.Circuit{}, nil, api.Pattern{}, nil)
}

// TestDetectedRepeated has faults that stand in the list several times, in any order.
func TestDetectedRepeated(t *testing.T) {
	expectDetected(t, "example", example(), list("2 1, 0 1, 0 1, 2 0, 1 0, 2.0 1, 0 1"), patternOf("01"), []int{0, 1, 2, 5, 6})
	expectDetected(t, "example", example(), slices.Repeat(list("1 0, 1 1"), 50), patternOf("11"), evens(100))
	r := random(173)
	for i, c := range circuits(100, 30) {
		l := all(c, api.Stuck)
		expectDetectedOf(t, "circuit "+strconv.Itoa(i), c, r.faults(100, l), r.full(c))
		expectDetectedOf(t, "circuit "+strconv.Itoa(i), c, r.faults(100, l[:min(3, len(l))]), r.full(c))
		slices.Reverse(l)
		expectDetectedOf(t, "circuit "+strconv.Itoa(i), c, slices.Concat(l, l), r.full(c))
	}
}

// TestDetectedSmall has all stuck faults of small circuits, together and alone, with all full patterns.
func TestDetectedSmall(t *testing.T) {
	seen, missed := 0, 0
	for i, c := range small(250, 14, 4) {
		l := all(c, api.Stuck)
		for _, p := range allPatterns(c) {
			name := "circuit " + strconv.Itoa(i)
			_, want := resultsOf(c, l, p)
			expectDetected(t, name, c, l, p, want)
			for k, f := range l {
				var alone []int
				if slices.Contains(want, k) {
					alone = []int{0}
				}
				expectDetected(t, name+" alone", c, []api.Fault{f}, p, alone)
			}
			seen, missed = seen+len(want), missed+len(l)-len(want)
		}
	}
	if seen < 5000 || missed < 20000 {
		t.Errorf("%d faults are detected, %d are not", seen, missed)
	}
}

// TestDetectedRandom has larger circuits with all their faults.
func TestDetectedRandom(t *testing.T) {
	r := random(174)
	for i, c := range circuits(150, 60) {
		for range 3 {
			expectDetectedOf(t, "circuit "+strconv.Itoa(i), c, all(c, api.Stuck), r.full(c))
		}
	}
}

// TestDetectedLimits has as many faults, nets times faults, and outputs as there may be.
func TestDetectedLimits(t *testing.T) {
	expectDetected(t, "many faults", example(), slices.Repeat(list("0 1, 2 0"), api.MaxFaults/2), patternOf("01"), evens(api.MaxFaults))
	for _, nodes := range []int{16, 17, 1024, 1000, 5000, api.MaxNodes} {
		for _, descends := range []bool{false, true} {
			c := chain(nodes, descends)
			c.Outs = slices.Repeat(c.Outs, api.MaxNodes)
			l := slices.Repeat([]api.Fault{
				{Line: at(nodes/2, -1), Value: 0},
				{Line: at(nodes/2, -1), Value: 1},
			}, MaxEntries/nodes/2)
			expectDetected(t, strconv.Itoa(nodes)+" nodes", c, l, patternOf("0"), parity(l, inversions(nodes, descends)%2))
			expectDetected(t, strconv.Itoa(nodes)+" nodes", c, l, patternOf("1"), parity(l, 1-inversions(nodes, descends)%2))
		}
	}
}

// inversions returns how many of them the middle node of a chain is behind.
func inversions(nodes int, descends bool) int {
	if descends {
		return nodes - 1 - nodes/2
	}
	return nodes / 2
}

// parity returns the indices of the faults that are not stuck at v.
func parity(l []api.Fault, v int) []int {
	var out []int
	for i, f := range l {
		if int(f.Value) != v {
			out = append(out, i)
		}
	}
	return out
}
