package events_test

import (
	"slices"
	"strconv"
	"strings"
	"testing"

	"probecard/api"
	. "probecard/events"
	"probecard/logic"
	"probecard/sims"
)

// P8.2 and P8.3

// step is a pattern, and what a simulator shows after it.
type step struct {
	in, state string
	changed   []int
	evals     int
	nets      string
}

// expectSteps applies the patterns of steps to a new simulator.
func expectSteps(t *testing.T, name string, c api.Circuit, steps ...step) {
	t.Helper()
	s, m := start(t, name, c)
	other, _ := New(c)
	for i, x := range steps {
		l, e := other.Apply(pattern(x.in, x.state))
		if nets := logic.Text(other.Values()...); e != api.OK || !slices.Equal(l, x.changed) || other.Evals() != x.evals || nets != x.nets {
			t.Errorf("%s, step %d: changes %v with %d evaluations to %s, not %v, with error %d", name, i, l, other.Evals(), nets, x, e)
		}
		expectApply(t, name+", step "+strconv.Itoa(i), s, m, pattern(x.in, x.state))
	}
}

func TestExample(t *testing.T) {
	expectSteps(t, "example", example(),
		step{"0", "1", []int{0, 1, 2, 3, 4, 5}, 4, "0111ZZ"},
		step{"1", "1", []int{0, 2, 3, 4, 5}, 4, "110000"},
		step{"1", "0", []int{1}, 1, "100000"},
		step{"1", "0", nil, 0, "100000"})
	s, m := start(t, "example", example(), pattern("1", "0"))
	if l, e := s.Apply(pattern("1", "")); len(l) != 0 || e != api.ErrWidth {
		t.Errorf("without a state: %v with error %d", l, e)
	}
	expectState(t, "example", s, m)
}

// TestResponse has responses with Z and X in them, and primary outputs that are named several times.
func TestResponse(t *testing.T) {
	c := example()
	c.Nodes = append(c.Nodes, in(api.Dff, 5))
	c.Outs = []int{5, 3, 5, 0}
	s, e := New(named(c))
	for _, x := range []struct{ in, state, out, next string }{
		{"0", "1Z", "Z1Z0", "1X"}, {"1", "10", "0001", "00"}, {"X", "0Z", "X0XX", "0X"}, {"Z", "XX", "XXXZ", "XX"},
	} {
		_, e2 := s.Apply(pattern(x.in, x.state))
		if r := s.Response(); e+e2 != api.OK || logic.Text(r.Out...) != x.out || logic.Text(r.Next...) != x.next {
			t.Errorf("response %v, not %v, with errors %d and %d", r, x, e, e2)
		}
	}
}

// TestFull has known and unknown values at nodes of all kinds, in each order of two patterns.
func TestFull(t *testing.T) {
	rows := []struct{ in, state, nets string }{
		{"110", "10X", "1111100011" + "0011101XX0" + "X"},
		{"00Z", "11Z", "1010110ZZ0" + "1110010ZXZ" + "Z"},
		{"X11", "0X1", "1X011X0X0X" + "1XXX01XXX1" + "1"},
		{"100", "X00", "01X01001Z0" + "1011101110" + "0"},
		{"01X", "01X", "1001110Z00" + "111001000X" + "X"},
		{"0X0", "010", "100X110ZX0" + "1110010XX0" + "0"},
	}
	for _, a := range rows {
		for _, b := range rows {
			s, m := start(t, "full", full(), pattern(a.in, a.state))
			l, e := s.Apply(pattern(b.in, b.state))
			m.apply(pattern(b.in, b.state))
			expectState(t, "full", s, m)
			if nets := logic.Text(s.Values()...); e != api.OK || nets != b.nets || !slices.Equal(l, differences(values(a.nets), values(b.nets))) {
				t.Errorf("%v after %v: %s by changing %v, with error %d", b, a, nets, l, e)
			}
		}
	}
}

// TestFirst has the first pattern of a simulator, whose values change against the unknown ones.
func TestFirst(t *testing.T) {
	c := of([]int{2}, in(api.Input), in(api.Dff, 2), in(api.Or, 0, 1))
	for _, x := range []step{
		{"X", "X", nil, 0, "XXX"},
		{"0", "X", []int{0}, 1, "0XX"},
		{"1", "X", []int{0, 2}, 1, "1X1"},
		{"Z", "X", []int{0}, 1, "ZXX"},
		{"X", "0", []int{1}, 1, "X0X"},
		{"X", "1", []int{1, 2}, 1, "X11"},
		{"X", "Z", []int{1}, 1, "XZX"},
		{"0", "0", []int{0, 1, 2}, 1, "000"},
		{"Z", "Z", []int{0, 1}, 1, "ZZX"},
	} {
		expectSteps(t, "first "+x.in+x.state, c, x, step{x.in, x.state, nil, 0, x.nets})
	}
	for i, c := range circuits(100, 30) {
		s, _ := start(t, "circuit "+strconv.Itoa(i), c)
		before := s.Values()
		if l, e := s.Apply(sims.Blank(c)); e != api.OK || len(l) != 0 || s.Evals() != 0 || !slices.Equal(s.Values(), before) {
			t.Errorf("circuit %d: the unknown pattern changes %v with %d evaluations, error %d", i, l, s.Evals(), e)
		}
	}
}

// TestValues goes from each value of an input and a state to each other one.
func TestValues(t *testing.T) {
	c := of(nil, in(api.Input), in(api.Dff, 0), in(api.Buf, 0), in(api.Buf, 1))
	reads := map[rune]string{'0': "0", '1': "1", 'X': "X", 'Z': "X"}
	for _, from := range "01XZ" {
		for _, to := range "01XZ" {
			for _, other := range "01XZ" {
				ins, _ := start(t, "input", c, pattern(string(from), string(other)))
				states, _ := start(t, "state", c, pattern(string(other), string(from)))
				var wantIn, wantState []int
				if from != to {
					wantIn, wantState = []int{0}, []int{1}
				}
				evals := len(wantIn)
				if reads[from] != reads[to] {
					wantIn, wantState = []int{0, 2}, []int{1, 3}
				}
				if l, e := ins.Apply(pattern(string(to), string(other))); e != api.OK || !slices.Equal(l, wantIn) || ins.Evals() != evals || logic.Text(ins.Values()...) != string(to)+string(other)+reads[to]+reads[other] {
					t.Errorf("input %c to %c: %v with %d evaluations", from, to, l, ins.Evals())
				}
				if l, e := states.Apply(pattern(string(other), string(to))); e != api.OK || !slices.Equal(l, wantState) || states.Evals() != evals || logic.Text(states.Values()...) != string(other)+string(to)+reads[other]+reads[to] {
					t.Errorf("state %c to %c: %v with %d evaluations", from, to, l, states.Evals())
				}
			}
		}
	}
}

// TestPins has nodes that read one changed net at several pins, and several changed nets: each is evaluated once.
func TestPins(t *testing.T) {
	for _, x := range []struct {
		node    api.Node
		changed []int
		nets    string
	}{
		{in(api.And, 0, 0), []int{0, 2}, "1X1"},
		{in(api.Xor, 0, 0, 0, 0), []int{0, 2}, "1X0"},
		{in(api.Xor, 0, 1, 0), []int{0}, "1XX"},
		{in(api.Nor, 1, 0, 1, 0), []int{0, 2}, "1X0"},
		{in(api.Mux, 0, 0, 0), []int{0, 2}, "1X1"},
		{in(api.Mux, 0, 1, 0), []int{0, 2}, "1X1"},
		{in(api.Tri, 0, 0), []int{0, 2}, "1X1"},
		{in(api.Nand, slices.Repeat([]int{0}, api.MaxFanin)...), []int{0, 2}, "1X0"},
	} {
		expectSteps(t, "pins", of(nil, in(api.Input), in(api.Input), x.node), step{"1X", "", x.changed, 1, x.nets})
	}
	expectSteps(t, "two nets", of(nil, in(api.And, 1, 2, 1, 2), in(api.Input), in(api.Input)),
		step{"11", "", []int{0, 1, 2}, 1, "111"},
		step{"00", "", []int{0, 1, 2}, 1, "000"},
		step{"01", "", []int{2}, 1, "001"},
		step{"10", "", []int{1, 2}, 1, "010"})
	expectSteps(t, "a bus", of(nil, in(api.Input), in(api.Input), in(api.Tri, 0, 1), in(api.Bus, 2, 2, 2)),
		step{"11", "", []int{0, 1, 2, 3}, 2, "1111"},
		step{"10", "", []int{1, 2, 3}, 2, "1000"},
		step{"00", "", []int{0, 2, 3}, 2, "00ZZ"})
}

// TestUnchanged has nodes that are evaluated although their values do not change: the nodes that read only them are not.
func TestUnchanged(t *testing.T) {
	c := of([]int{3}, in(api.Input), in(api.Input), in(api.And, 0, 1), in(api.Not, 2), in(api.Or, 3, 1))
	expectSteps(t, "unchanged", c,
		step{"00", "", []int{0, 1, 2, 3, 4}, 3, "00011"},
		step{"10", "", []int{0}, 1, "10011"},
		step{"01", "", []int{0, 1}, 2, "01011"},
		step{"X1", "", []int{0, 2, 3}, 3, "X1XX1"},
		step{"Z1", "", []int{0}, 1, "Z1XX1"},
		step{"ZX", "", []int{1, 4}, 2, "ZXXXX"},
		step{"0X", "", []int{0, 2, 3, 4}, 3, "0X011"})
}

// TestLevels has nets that would change for a while if nodes were evaluated before those that they depend on.
func TestLevels(t *testing.T) {
	hazard := []api.Node{in(api.Xor, 1, 4), in(api.Input), in(api.Buf, 0), in(api.Not, 1), in(api.Not, 3)}
	expectSteps(t, "hazard", of([]int{2}, hazard...),
		step{"0", "", []int{0, 1, 2, 3, 4}, 4, "00010"},
		step{"1", "", []int{1, 3, 4}, 3, "01001"},
		step{"X", "", []int{0, 1, 2, 3, 4}, 4, "XXXXX"},
		step{"1", "", []int{0, 1, 2, 3, 4}, 4, "01001"})
	// Each node reads the input and the node behind it, so that nodes of all levels are waiting at once.
	nodes := []api.Node{in(api.Xor, 1, 40)}
	for i := 1; i < 39; i++ {
		nodes = append(nodes, in(api.Xor, i+1, 40))
	}
	nodes = append(nodes, in(api.Buf, 40), in(api.Input))
	zeros, even, odd := strings.Repeat("0", 41), strings.Repeat("01", 20)+"1", []int{}
	for i := 1; i < 40; i += 2 {
		odd = append(odd, i)
	}
	all := make([]int, 41)
	for i := range all {
		all[i] = i
	}
	expectSteps(t, "all levels", of([]int{0}, nodes...),
		step{"0", "", all, 40, zeros},
		step{"1", "", append(odd, 40), 40, even},
		step{"0", "", append(odd, 40), 40, zeros})
}

// TestDff has Dff nodes that read changed nets, each other and themselves: they change only with the pattern, and are not evaluated.
func TestDff(t *testing.T) {
	expectSteps(t, "shift", of(nil, in(api.Dff, 1), in(api.Dff, 2), in(api.Input), in(api.Dff, 3)),
		step{"1", "XXX", []int{2}, 0, "XX1X"},
		step{"0", "0X1", []int{0, 2, 3}, 0, "0X01"},
		step{"0", "011", []int{1}, 0, "0101"})
	expectSteps(t, "loop", of(nil, in(api.Dff, 1), in(api.Not, 0)),
		step{"", "0", []int{0, 1}, 1, "01"},
		step{"", "0", nil, 0, "01"},
		step{"", "1", []int{0, 1}, 1, "10"},
		step{"", "Z", []int{0, 1}, 1, "ZX"},
		step{"", "X", []int{0}, 1, "XX"})
	s, _ := start(t, "loop", of([]int{1}, in(api.Dff, 1), in(api.Not, 0)), pattern("", "0"))
	if r := s.Response(); logic.Text(r.Out...) != "1" || logic.Text(r.Next...) != "1" {
		t.Errorf("response %v", r)
	}
}

// TestOrder has inputs and states in alternation, whose values are those of their own lists, in order.
func TestOrder(t *testing.T) {
	c := of(nil, in(api.Dff, 1), in(api.Input), in(api.Input), in(api.Dff, 0), in(api.Dff, 4), in(api.Input))
	expectSteps(t, "alternation", c,
		step{"01X", "10Z", []int{0, 1, 2, 3, 4}, 0, "1010ZX"},
		step{"011", "00Z", []int{0, 5}, 0, "0010Z1"},
		step{"Z10", "X1Z", []int{0, 1, 3, 5}, 0, "XZ11Z0"})
}

// TestBus has two drivers of a bus, which are off, on, unknown and in conflict.
func TestBus(t *testing.T) {
	c := of([]int{6}, in(api.Input), in(api.Input), in(api.Input), in(api.Input), in(api.Tri, 0, 1), in(api.Tri, 2, 3), in(api.Bus, 4, 5), in(api.Not, 6))
	expectSteps(t, "bus", c,
		step{"0000", "", []int{0, 1, 2, 3, 4, 5, 6}, 4, "0000ZZZX"},
		step{"0100", "", []int{1}, 1, "0100ZZZX"},
		step{"1100", "", []int{0, 4, 6, 7}, 3, "11001Z10"},
		step{"1111", "", []int{2, 3, 5}, 2, "11111110"},
		step{"1110", "", []int{3, 5, 6, 7}, 3, "111010XX"},
		step{"1010", "", []int{1, 4, 6, 7}, 3, "10100001"},
		step{"X010", "", []int{0, 4, 6, 7}, 3, "X010X0XX"},
		step{"0010", "", []int{0, 4, 6, 7}, 3, "0010Z001"},
		step{"00Z0", "", []int{2, 5, 6, 7}, 3, "00Z0ZXXX"})
}

// TestConstants has constants, whose nets never change, and nodes that read only them.
func TestConstants(t *testing.T) {
	c := of([]int{3}, in(api.Zero), in(api.One), in(api.And, 0, 1), in(api.Or, 2, 4), in(api.Input))
	expectSteps(t, "constants", c, step{"1", "", []int{3, 4}, 1, "01011"}, step{"0", "", []int{3, 4}, 1, "01000"})
	expectSteps(t, "no inputs", of([]int{0}, in(api.Nor, 1, 2), in(api.Zero), in(api.One)), step{"", "", nil, 0, "001"}, step{"", "", nil, 0, "001"})
}

// TestGates has each kind with each number of inputs, with patterns of all sorts.
func TestGates(t *testing.T) {
	r := random(21)
	for kind := api.Zero; kind <= api.Bus; kind++ {
		least, most := logic.Fanin(kind)
		for n := least; n <= most; n++ {
			nodes := []api.Node{in(api.Dff, 1), in(kind)}
			for range n {
				nodes = append(nodes, in(api.Input))
				if last := len(nodes); kind == api.Bus {
					nodes = append(nodes, in(api.Input), in(api.Tri, last-1, last))
				}
				nodes[1].In = append(nodes[1].In, len(nodes)-1)
			}
			c := of([]int{1, 0, 1}, nodes...)
			start(t, "kind "+strconv.Itoa(int(kind)), c, r.sequence(60, c)...)
		}
	}
}

// TestRandom has sequences of patterns for random circuits.
func TestRandom(t *testing.T) {
	r := random(22)
	for i, c := range circuits(300, 50) {
		start(t, "circuit "+strconv.Itoa(i), c, r.sequence(30, c)...)
	}
}

// TestLarge has circuits at the limits: the deepest ones, one whose nodes of all levels are waiting at once, and one with many readers of a net.
func TestLarge(t *testing.T) {
	const n = api.MaxNodes
	r := random(23)
	ladder, wide := make([]api.Node, n), make([]api.Node, n)
	for i := 1; i < n; i++ {
		ladder[i] = in(api.Xor, append(slices.Repeat([]int{0}, api.MaxFanin-1), i-1)...)
		wide[i] = in(api.Nand, 0, i%3, 0, i/2%2)
		if i < 3 {
			wide[i] = in(api.Dff, n-1)
		}
	}
	for _, x := range []struct {
		name string
		c    api.Circuit
	}{
		{"chain", chain(n, -1, n-1, 7)}, {"chain back", chain(n, 1, 0)}, {"ladder", of([]int{n - 1, 5}, ladder...)}, {"wide", of([]int{n - 1}, wide...)},
	} {
		start(t, x.name, x.c, r.sequence(12, x.c)...)
	}
	nodes, p := make([]api.Node, n), api.Pattern{In: make([]api.Value, n/2), State: make([]api.Value, n/2)}
	for i := range nodes {
		if i%2 > 0 {
			nodes[i] = in(api.Dff, n-1-i)
		}
	}
	c := of(nil, nodes...)
	start(t, "flat", c, p, r.near(p, 3), r.pattern(c, 4), r.pattern(c, 4))
}
