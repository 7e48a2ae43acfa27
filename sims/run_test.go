package sims_test

import (
	"slices"
	"strconv"
	"strings"
	"testing"

	"probecard/api"
	"probecard/logic"
	. "probecard/sims"
)

// P6.2

// row is a pattern, and what Run returns for it.
type row struct{ in, state, nets, out, next string }

// expectRun checks the rows of a circuit.
func expectRun(t *testing.T, name string, c api.Circuit, rows ...row) {
	t.Helper()
	for _, x := range rows {
		r, nets, e := Run(c, pattern(x.in, x.state))
		got := row{x.in, x.state, logic.Text(nets...), logic.Text(r.Out...), logic.Text(r.Next...)}
		if e != api.OK || got != x {
			t.Errorf("%s: %v, not %v, with error %d", name, got, x, e)
		}
	}
}

func TestRunExample(t *testing.T) {
	expectRun(t, "example", example(),
		row{"0", "1", "0111ZZ", "1Z", "1"},
		row{"1", "X", "1X0000", "00", "0"},
		row{"X", "1", "X1XXXX", "XX", "X"})
}

func TestRunFull(t *testing.T) {
	expectRun(t, "full", full(),
		row{"110", "10X", "1111100011" + "0011101XX0" + "X", "X0X0011", "X00"},
		row{"00Z", "11Z", "1010110ZZ0" + "1110010ZXZ" + "Z", "Z1ZZZ00", "X1X"},
		row{"X11", "0X1", "1X011X0X0X" + "1XXX01XXX1" + "1", "X1XX1XX", "XXX"},
		row{"100", "X00", "01X01001Z0" + "1011101110" + "0", "1011011", "101"},
		row{"01X", "01X", "1001110Z00" + "111001000X" + "X", "010ZX00", "01X"},
		row{"0X0", "010", "100X110ZX0" + "1110010XX0" + "0", "X1XZ000", "X1X"})
}

// TestRunOrder has inputs and states in alternation, whose values are those of their own lists, in order.
func TestRunOrder(t *testing.T) {
	c := of([]int{5, 0, 3, 1, 5}, in(api.Dff, 1), in(api.Input), in(api.Input), in(api.Dff, 0), in(api.Dff, 4), in(api.Input))
	expectRun(t, "alternation", c,
		row{"01X", "10Z", "10" + "10" + "ZX", "X100X", "01X"},
		row{"Z10", "X1Z", "XZ11Z0", "0X1Z0", "XXX"})
}

// TestRunShift has Dff nodes that read each other, and one that reads itself: all of them show their old values.
func TestRunShift(t *testing.T) {
	c := of([]int{0, 1, 2}, in(api.Dff, 1), in(api.Dff, 2), in(api.Dff, 0), in(api.Dff, 3))
	expectRun(t, "shift", c, row{"", "01X1", "01X1", "01X", "1X01"}, row{"", "Z001", "Z001", "Z00", "00X1"})
}

// TestRunEmpty has circuits without nodes, without outputs and without pattern.
func TestRunEmpty(t *testing.T) {
	expectRun(t, "no nodes", api.Circuit{}, row{})
	expectRun(t, "no outputs", of(nil, in(api.Not, 1), in(api.Input)), row{"0", "", "10", "", ""})
	expectRun(t, "no inputs", of([]int{2, 1}, in(api.Zero), in(api.One), in(api.Nor, 0, 1)), row{"", "", "010", "01", ""})
}

// tables returns the function of each combinational kind with up to three inputs, as text: the values of the inputs count from 0 to Z, the last one first.
func tables() map[api.Kind]string {
	xxxx := "XXXX"
	return map[api.Kind]string{
		api.Zero: "0",
		api.One:  "1",
		api.Buf:  "01XX",
		api.Not:  "10XX",
		api.And:  "0000" + "01XX" + "0XXX" + "0XXX",
		api.Nand: "1111" + "10XX" + "1XXX" + "1XXX",
		api.Or:   "01XX" + "1111" + "X1XX" + "X1XX",
		api.Nor:  "10XX" + "0000" + "X0XX" + "X0XX",
		api.Xor:  "01XX" + "10XX" + xxxx + xxxx,
		api.Xnor: "10XX" + "01XX" + xxxx + xxxx,
		api.Mux: "0000" + "1111" + xxxx + xxxx + strings.Repeat("01XX", 4) +
			strings.Repeat("0XXX"+"X1XX"+xxxx+xxxx, 2),
		api.Tri: "ZZZZ" + "01XX" + xxxx + xxxx,
		api.Bus: "0XX0" + "X1X1" + xxxx + "01XZ",
	}
}

// gate returns a circuit with a gate of a kind, of which each of the n pins is driven by an Input, or by a Tri node if the kind is Bus.
// The gate is node 1 and the output, and a Dff reads it.
func gate(kind api.Kind, n int) api.Circuit {
	nodes := []api.Node{in(api.Dff, 1), in(kind)}
	for range n {
		nodes = append(nodes, in(api.Input))
		if last := len(nodes); kind == api.Bus {
			nodes = append(nodes, in(api.Input), in(api.Tri, last-1, last))
		}
		nodes[1].In = append(nodes[1].In, len(nodes)-1)
	}
	return of([]int{1}, nodes...)
}

// drive returns the pattern with which the gate of such a circuit has the values l at its pins.
func drive(kind api.Kind, l []api.Value) api.Pattern {
	p := api.Pattern{State: values("X")}
	for _, v := range l {
		if kind == api.Bus {
			p.In = append(p.In, values([]string{"10", "11", "X1", "01"}[v])...)
		} else {
			p.In = append(p.In, v)
		}
	}
	return p
}

// expectGate checks the output of a gate of a kind with the values l at its pins, and what a Dff reads from it.
func expectGate(t *testing.T, kind api.Kind, l []api.Value, want api.Value) {
	t.Helper()
	c := gate(kind, len(l))
	r, nets, e := Run(c, drive(kind, l))
	data := want
	if want == api.VZ {
		data = api.VX
	}
	if e != api.OK || nets[1] != want || !slices.Equal(r.Out, []api.Value{want}) || !slices.Equal(r.Next, []api.Value{data}) {
		t.Errorf("kind %d of %s: %s, response %v, not %s, with error %d", kind, logic.Text(l...), logic.Text(nets...), r, logic.Text(want), e)
	}
	for pin, net := range c.Nodes[1].In {
		if e == api.OK && nets[net] != l[pin] {
			t.Errorf("kind %d of %s: pin %d has the value %d", kind, logic.Text(l...), pin, nets[net])
		}
	}
}

// digits returns the digits of i to the base 4, n of them, the last one first.
func digits(i, n int) []api.Value {
	l := make([]api.Value, n)
	for k := n - 1; k >= 0; k-- {
		l[k] = api.Value(i % 4)
		i /= 4
	}
	return l
}

// TestRunTables has all kinds with their least number of inputs, but two for Bus, and all values at them.
func TestRunTables(t *testing.T) {
	all := tables()
	if len(all) != 13 {
		t.Fatalf("%d kinds", len(all))
	}
	for kind, table := range all {
		n := 0
		for 1<<(2*n) < len(table) {
			n++
		}
		for i, v := range values(table) {
			expectGate(t, kind, digits(i, n), v)
		}
	}
	for v := range api.VZ + 1 {
		expectGate(t, api.Bus, []api.Value{v}, v)
	}
}

// TestRunWidths has the kinds of several inputs with all numbers of them, and all values at up to four of them.
func TestRunWidths(t *testing.T) {
	r := random(11)
	for _, kind := range []api.Kind{api.And, api.Nand, api.Or, api.Nor, api.Xor, api.Xnor, api.Bus} {
		for n := 2; n <= api.MaxFanin; n++ {
			for i := range min(1<<(2*n), 256) {
				l := digits(i, n)
				if n > 4 {
					l = r.values(n, api.Value(2+r.below(3)))
				}
				if n > 4 && r.below(3) == 0 { // one value decides
					l = slices.Repeat([]api.Value{api.Value(r.below(4))}, n)
					l[r.below(n)] = api.Value(r.below(4))
				}
				expectGate(t, kind, l, logic.Eval(kind, l...))
			}
		}
	}
}

// TestRunRandom compares Run with the definition, for patterns of all values.
func TestRunRandom(t *testing.T) {
	r := random(12)
	for i, c := range circuits(300, 40) {
		for range 8 {
			p := r.pattern(c, 4)
			response, nets, e := Run(c, p)
			if want := netsOf(c, p); e != api.OK || !slices.Equal(nets, want) {
				t.Errorf("circuit %d: %s, not %s, with error %d", i, logic.Text(nets...), logic.Text(want...), e)
			}
			if want := responseOf(c, nets); !sameResponse(response, want) {
				t.Errorf("circuit %d: response %v, not %v", i, response, want)
			}
			if got := Observe(c, nets); !sameResponse(response, got) {
				t.Errorf("circuit %d: Observe of the nets is %v, not %v", i, got, response)
			}
		}
	}
}

// TestRunAssignment checks the equation of every net.
func TestRunAssignment(t *testing.T) {
	r := random(13)
	for i, c := range circuits(200, 30) {
		p := r.pattern(c, 4)
		_, nets, _ := Run(c, p)
		for net, n := range c.Nodes {
			var want api.Value
			switch n.Kind {
			case api.Input:
				want = p.In[rank(c, net)]
			case api.Dff:
				want = p.State[rank(c, net)]
			default:
				var pins []api.Value
				for _, from := range n.In {
					pins = append(pins, nets[from])
				}
				want = logic.Eval(n.Kind, pins...)
			}
			if nets[net] != want {
				t.Errorf("circuit %d: net %d is %d, not %d", i, net, nets[net], want)
			}
		}
	}
}

// TestRunRenumbered checks that the values move with the nodes.
func TestRunRenumbered(t *testing.T) {
	r := random(14)
	for i, c := range circuits(200, 30) {
		p := r.pattern(c, 4)
		_, nets, _ := Run(c, p)
		to := r.permutation(len(c.Nodes))
		d := renumbered(c, to)
		moved := make([]api.Value, len(nets))
		for net, v := range nets {
			moved[to[net]] = v
		}
		q := Blank(d)
		for net, n := range d.Nodes {
			switch n.Kind {
			case api.Input:
				q.In[rank(d, net)] = moved[net]
			case api.Dff:
				q.State[rank(d, net)] = moved[net]
			}
		}
		if _, got, e := Run(d, q); e != api.OK || !slices.Equal(got, moved) {
			t.Errorf("circuit %d: %s, not %s, with error %d", i, logic.Text(got...), logic.Text(moved...), e)
		}
	}
}

// TestRunLarge has circuits at the limits: the deepest ones, the widest one, and one of inputs, states and outputs only.
func TestRunLarge(t *testing.T) {
	const n = api.MaxNodes
	for _, step := range []int{-1, 1} {
		last := (n - 1) * (1 - step) / 2
		c := chain(n, step, last)
		r, nets, e := Run(c, pattern("0", ""))
		if e != api.OK || logic.Text(r.Out...) != "1" || nets[last] != api.V1 || nets[n-1-last] != api.V0 {
			t.Errorf("step %d: %v with error %d", step, r, e)
		}
	}
	nodes := make([]api.Node, n)
	for i := 1; i < n; i++ {
		nodes[i] = in(api.Nand, slices.Repeat([]int{i - 1}, api.MaxFanin)...)
	}
	if r, _, e := Run(of([]int{n - 1}, nodes...), pattern("0", "")); e != api.OK || logic.Text(r.Out...) != "1" {
		t.Errorf("wide: %v with error %d", r, e)
	}
	outs := make([]int, n)
	for i := range nodes {
		nodes[i], outs[i] = in(api.Input), n-1-i
		if i%2 > 0 {
			nodes[i] = in(api.Dff, n-1-i)
		}
	}
	p := pattern(strings.Repeat("01XZ", n/8), strings.Repeat("1ZX0", n/8))
	r, _, e := Run(of(outs, nodes...), p)
	if e != api.OK || logic.Text(r.Out...) != strings.Repeat("0ZXXZ110", n/8) || logic.Text(r.Next...) != strings.Repeat("XX10", n/8) {
		t.Errorf("flat: %s and %s with error %d", logic.Text(r.Out...)[:8], logic.Text(r.Next...)[:8], e)
	}
}

// TestRunAgain checks that calls do not influence each other.
func TestRunAgain(t *testing.T) {
	r := random(15)
	c := full()
	first := map[string]string{}
	for i := range 300 {
		p := api.Pattern{In: r.values(3, 3), State: r.values(3, 2)}
		_, nets, _ := Run(c, p)
		key, text := logic.Text(p.In...)+logic.Text(p.State...), logic.Text(nets...)
		if old, ok := first[key]; ok && old != text {
			t.Error("call " + strconv.Itoa(i) + " has other values: " + text)
		}
		first[key] = text
		if i%5 == 0 {
			Run(c, api.Pattern{})
			Observe(c, r.values(21, 4))
		}
	}
}
