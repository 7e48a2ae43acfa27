package faults_test

import (
	"slices"
	"strconv"
	"strings"
	"testing"

	"probecard/api"
	. "probecard/faults"
)

// P12.2, Lines

// lineTexts returns the texts of lines, separated by spaces.
func lineTexts(l []api.Line) string {
	var words []string
	for _, x := range l {
		word := strconv.Itoa(x.Node)
		if x.Pin != -1 {
			word += "." + strconv.Itoa(x.Pin)
		}
		words = append(words, word)
	}
	return strings.Join(words, " ")
}

// expectLines expects the lines of a circuit.
func expectLines(t *testing.T, name string, c api.Circuit, want string) {
	t.Helper()
	l, e := Lines(c)
	if got := lineTexts(l); e != api.OK || got != want {
		t.Errorf("%s: %s with error %d, not %s", name, got, e, want)
	}
}

func TestLines(t *testing.T) {
	expectLines(t, "no nodes", api.Circuit{}, "")
	expectLines(t, "example", example(), "0 1 2 2.0 2.1")
	expectLines(t, "one node", read("INPUT(a)"), "0")
	expectLines(t, "without pins", read("z = ZERO(); INPUT(a); o = ONE(); OUTPUT(z); OUTPUT(z)"), "0 1 2")
	expectLines(t, "a net twice", read("INPUT(a); g = XOR(a, a); h = MUX(g, a, g)"), "0 1 1.0 1.1 2 2.0 2.1 2.2")
	expectLines(t, "a Dff that reads itself", read("q = DFF(q)"), "0 0.0")
	expectLines(t, "gates before inputs", read("g = NOR(q, b, a); q = DFF(g); INPUT(b); n = NOT(b); INPUT(a); t = TRI(a, b); s = BUS(t, t); r = BUF(s)"), "0 0.0 0.1 0.2 1 1.0 2 3 3.0 4 5 5.0 5.1 6 6.0 6.1 7 7.0")
	expectLines(t, "many pins", of(in(api.Or, slices.Repeat([]int{1}, 16)...), in(api.Input)), "0 0.0 0.1 0.2 0.3 0.4 0.5 0.6 0.7 0.8 0.9 0.10 0.11 0.12 0.13 0.14 0.15 1")
	expectLines(t, "all kinds", plain(), "0 0.0 0.1 1 2 2.0 3 4 5 5.0 6 7 7.0 7.1 8 8.0 8.1 9 9.0 9.1 9.2 9.3 10 10.0 10.1 11 11.0 11.1 12 12.0 12.1 12.2 13 13.0 13.1 14 14.0 14.1 14.2 15 15.0 16 16.0 17 17.0 17.1 17.2 18 18.0 19 20 20.0")
}

// TestLinesAny compares Lines with the chapter's words, and checks that exactly the lines are those with Stuck faults.
func TestLinesAny(t *testing.T) {
	for i, c := range circuits(300, 40) {
		l, e := Lines(c)
		if want := linesOf(c); e != api.OK || !slices.Equal(l, want) {
			t.Errorf("circuit %d: %v with error %d, not %v", i, l, e, want)
		}
		for node := -1; node <= len(c.Nodes); node++ {
			for pin := -2; pin <= api.MaxFanin; pin++ {
				line := api.Line{Node: node, Pin: pin}
				if is := checkError(c, api.Fault{Line: line}) == api.OK; is != slices.Contains(l, line) {
					t.Errorf("circuit %d: the line %v is in the list: %t", i, line, !is)
				}
			}
		}
	}
}

// TestLinesErrors has circuits that netlists.Check refuses, and circuits with memories.
func TestLinesErrors(t *testing.T) {
	expect := func(name string, c api.Circuit, want api.Errno) {
		t.Helper()
		if l, e := Lines(c); e != want || len(l) > 0 {
			t.Errorf("%s: %d lines with error %d, not %d", name, len(l), e, want)
		}
	}
	for _, x := range flaws() {
		for _, c := range flawed(x.change) {
			expect(x.name, c, x.want)
		}
	}
	expect("a memory", withMemory(), api.ErrKind)
	expect("two memories", full(), api.ErrKind)
	expect("a memory without nodes", api.Circuit{Mems: []api.Memory{{}}}, api.ErrWidth)
	c := example()
	c.Mems = []api.Memory{}
	expectLines(t, "no memories", c, "0 1 2 2.0 2.1")
}

// TestLinesLarge has as many nodes and pins as there may be: Lines has no limit.
func TestLinesLarge(t *testing.T) {
	c := wide(api.MaxNodes)
	l, e := Lines(c)
	if want := linesOf(c); e != api.OK || len(l) != 1+17*(api.MaxNodes-1) || !slices.Equal(l, want) {
		t.Errorf("%d lines with error %d", len(l), e)
	}
}

// wide returns a circuit of n nodes with MaxFanin pins each, apart from the first one.
func wide(n int) api.Circuit {
	nodes := []api.Node{in(api.Input)}
	for i := 1; i < n; i++ {
		pins := make([]int, api.MaxFanin)
		for k := range pins {
			pins[k] = max(0, i-1-k*k)
		}
		nodes = append(nodes, in(api.Nand, pins...))
	}
	return of(nodes...)
}
