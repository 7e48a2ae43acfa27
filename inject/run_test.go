package inject_test

import (
	"slices"
	"strconv"
	"testing"

	"probecard/api"
	"probecard/faults"
	. "probecard/inject"
	"probecard/logic"
	"probecard/sims"
)

// P13.1, and Detects of P13.4.

// row is what a cycle with a fault yields: the values of the nets, and the texts of the response without and with the fault.
type row struct{ fault, pattern, nets, bad string }

// expectRow expects from Run and Detects what a row says.
func expectRow(t *testing.T, c api.Circuit, x row) {
	t.Helper()
	p, f := patternOf(x.pattern), parsed(x.fault)
	r, nets, e := Run(c, f, p)
	if logic.Text(nets...) != x.nets || show(r) != x.bad || e != api.OK {
		t.Errorf("%s, pattern %s: nets %s, response %s, error %d, not %s and %s", x.fault, x.pattern, logic.Text(nets...), show(r), e, x.nets, x.bad)
	}
	expectRun(t, x.fault, c, f, p)
}

// expectRun expects from Run and Detects what the chapter's words say for a valid fault and pattern.
func expectRun(t *testing.T, name string, c api.Circuit, f api.Fault, p api.Pattern) {
	t.Helper()
	want, wantNets := runOf(c, f, p)
	r, nets, e := Run(c, f, p)
	if !sameResponse(r, want) || !slices.Equal(nets, wantNets) || e != api.OK {
		t.Errorf("%s: %s, pattern %v: nets %s, response %s, error %d, not %s and %s", name, faults.Text(f), p, logic.Text(nets...), show(r), e, logic.Text(wantNets...), show(want))
	}
	if is, e := Detects(c, f, p); is != isDetected(goodOf(c, p), want) || e != api.OK {
		t.Errorf("%s: %s, pattern %v: Detects returns %t and error %d", name, faults.Text(f), p, is, e)
	}
}

func TestRunExample(t *testing.T) {
	c := example()
	for _, x := range []row{
		{"stuck 0 0", "11", "010", "0 "},
		{"stuck 2.1 1", "11", "111", "1 "},
		{"wired 0 1 1", "10", "111", "1 "},
		{"stuck 0 1", "10", "100", "0 "},
		{"stuck 2.1 1", "10", "101", "1 "},
		{"stuck 2.1 1", "X0", "X0X", "X "},
		{"wired 0 1 0", "10", "000", "0 "},
		{"strong 0 1", "10", "000", "0 "},
		{"strong 1 0", "10", "111", "1 "},
		{"strong 0 1", "01", "111", "1 "},
		{"strong 1 0", "01", "000", "0 "},
	} {
		expectRow(t, c, x)
	}
	for f, want := range map[string]bool{"stuck 0 0": true, "stuck 2.1 1": false, "stuck 2 1": false, "stuck 2.0 0": true, "wired 0 1 1": false} {
		if is, e := Detects(c, parsed(f), pattern("11", "")); is != want || e != api.OK {
			t.Errorf("%s: %t with error %d", f, is, e)
		}
	}
	if is, e := Detects(c, parsed("wired 0 1 1"), pattern("10", "")); !is || e != api.OK {
		t.Errorf("wired 0 1 1: %t with error %d", is, e)
	}
}

// sheet has all kinds of nodes but some gates; its nodes are 0 a, 1 b, 2 q, 3 n, 4 g, 5 t, 6 u, 7 s, 8 m, 9 z, 10 o, 11 x, 12 r, 13 h and 14 k.
const sheet = "INPUT(a); INPUT(b); q = DFF(s); n = NOT(a); g = AND(a, b, a); t = TRI(a, b); u = TRI(n, q); s = BUS(t, u, t); m = MUX(a, g, s); z = ZERO(); o = ONE(); x = XOR(q, z, o); r = DFF(t); h = NOR(r, x); k = BUF(t); OUTPUT(s); OUTPUT(m); OUTPUT(t); OUTPUT(a); OUTPUT(h); OUTPUT(h)"

// TestRunSheet has faults at the outputs and the pins of all nodes of the sheet.
func TestRunSheet(t *testing.T) {
	const good, goodShown = "101000Z00010010", "000111 00"
	if r, nets, e := sims.Run(read(sheet), patternOf("10 10")); logic.Text(nets...) != good || show(r) != goodShown || e != api.OK {
		t.Fatalf("without fault: nets %s, response %s, error %d", logic.Text(nets...), show(r), e)
	}
	for _, x := range []struct{ fault, nets, bad string }{
		// Input
		{"stuck 0 0", "00110Z11001001X", "10Z011 1X"}, {"stuck 0 1", good, goodShown},
		{"stuck 1 1", "111011Z11010011", "111111 11"}, {"stuck 1 0", good, goodShown},
		// Dff: the output changes what is read, the pin only the next state
		{"stuck 2 0", "100000Z00011000", "000100 00"}, {"stuck 2 1", good, goodShown},
		{"stuck 2.0 1", good, "000111 10"}, {"stuck 2.0 0", good, goodShown},
		{"stuck 12 1", "101000Z00010100", "000100 00"}, {"stuck 12 0", good, goodShown},
		{"stuck 12.0 1", good, "000111 01"}, {"stuck 12.0 0", good, goodShown},
		// gates
		{"stuck 3 1", "1011001XX010010", "XX0111 X0"}, {"stuck 3.0 0", "1011001XX010010", "XX0111 X0"}, {"stuck 3.0 1", good, goodShown},
		{"stuck 4 1", "101010Z00010010", goodShown}, {"stuck 4.1 1", "101010Z00010010", goodShown}, {"stuck 4.0 0", good, goodShown}, {"stuck 4.2 0", good, goodShown},
		{"stuck 8 1", "101000Z01010010", "010111 00"}, {"stuck 8.2 1", "101000Z01010010", "010111 00"}, {"stuck 8.0 0", good, goodShown}, {"stuck 8.1 1", good, goodShown},
		{"stuck 11 1", "101000Z00011000", "000100 00"}, {"stuck 11.1 1", "101000Z00011000", "000100 00"}, {"stuck 11.0 0", "101000Z00011000", "000100 00"}, {"stuck 11.2 1", good, goodShown},
		{"stuck 13 0", "101000Z00010000", "000100 00"}, {"stuck 13.0 1", "101000Z00010000", "000100 00"}, {"stuck 13.1 0", good, goodShown},
		{"stuck 14 1", "101000Z00010011", goodShown}, {"stuck 14.0 1", "101000Z00010011", goodShown},
		// Tri and Bus
		{"stuck 5 1", "101001Z11010011", "111111 11"}, {"stuck 5.1 1", "101001Z11010011", "111111 11"}, {"stuck 5.0 0", "10100ZZZX01001X", "ZXZ111 XX"},
		{"stuck 6 1", "1010001XX010010", "XX0111 X0"}, {"stuck 6 0", "101000000010010", goodShown}, {"stuck 6.0 1", "1010001XX010010", "XX0111 X0"}, {"stuck 6.1 0", good, goodShown},
		{"stuck 7 1", "101000Z11010010", "110111 10"}, {"stuck 7.0 1", "101000ZXX010010", "XX0111 X0"}, {"stuck 7.1 1", "101000ZXX010010", "XX0111 X0"}, {"stuck 7.2 1", "101000ZXX010010", "XX0111 X0"},
		{"stuck 7.0 0", good, goodShown}, {"stuck 7.1 0", good, goodShown},
		// constants
		{"stuck 9 1", "101000Z00111000", "000100 00"}, {"stuck 9 0", good, goodShown}, {"stuck 10 0", "101000Z00001000", "000100 00"}, {"stuck 10 1", good, goodShown},
		// bridges
		{"wired 0 1 0", "00110Z11001001X", "10Z011 1X"}, {"wired 0 1 1", "111011Z11010011", "111111 11"}, {"strong 0 1", "00110Z11001001X", "10Z011 1X"}, {"strong 1 0", "111011Z11010011", "111111 11"},
		{"wired 2 3 0", "100000Z00011000", "000100 00"}, {"wired 2 3 1", "1011001XX010010", "XX0111 X0"}, {"strong 2 3", "100000Z00011000", "000100 00"}, {"strong 3 2", "1011001XX010010", "XX0111 X0"},
		{"wired 7 10 0", "101000Z00001000", "000100 00"}, {"wired 7 10 1", "101000Z11010010", "110111 10"}, {"strong 7 10", "101000Z11010010", "110111 10"}, {"strong 10 7", "101000Z00001000", "000100 00"},
		{"wired 9 12 1", good, goodShown}, {"wired 9 10 0", "101000Z00001000", "000100 00"}, {"wired 9 10 1", "101000Z00111000", "000100 00"},
	} {
		expectRow(t, read(sheet), row{x.fault, "10 10", x.nets, x.bad})
	}
}

// TestRunUnknown has faults on nets without known values: on a bus without driver and on inputs.
func TestRunUnknown(t *testing.T) {
	// the nodes are 0 e, 1 d, 2 t, 3 s, 4 c, 5 q, 6 r and 7 k
	c := read("INPUT(e); INPUT(d); t = TRI(e, d); s = BUS(t); INPUT(c); q = DFF(s); r = DFF(c); k = BUF(s); OUTPUT(s); OUTPUT(c)")
	for _, x := range []row{
		{"stuck 5 1", "010 00", "01ZZ010X", "Z0 X0"}, // as without the fault, but for the output of the Dff
		{"stuck 5.0 0", "010 00", "01ZZ000X", "Z0 00"},
		{"stuck 5.0 1", "010 00", "01ZZ000X", "Z0 10"},
		{"stuck 6.0 0", "01Z 00", "01ZZZ00X", "ZZ X0"},
		{"stuck 6.0 1", "01X 00", "01ZZX00X", "ZX X1"},
		{"stuck 6.0 1", "XXX ZX", "XXXXXZXX", "XX X1"},
		{"stuck 3 1", "010 00", "01Z10001", "10 10"},
		{"stuck 3.0 0", "010 00", "01Z00000", "00 00"},
		{"stuck 2 1", "010 00", "01110001", "10 10"},
		{"wired 3 4 0", "010 XX", "01Z00XX0", "00 00"},
		{"wired 3 4 0", "011 00", "01ZXX00X", "XX XX"},
		{"wired 3 4 0", "01X 00", "01ZXX00X", "XX XX"},
		{"wired 3 4 0", "01Z 00", "01ZXX00X", "XX XX"},
		{"wired 3 4 1", "010 00", "01ZXX00X", "XX XX"},
		{"wired 3 4 1", "011 00", "01Z11001", "11 11"},
		{"wired 3 4 1", "01Z 00", "01ZXX00X", "XX XX"},
		{"strong 3 4", "010 00", "01Z00000", "00 00"},
		{"strong 3 4", "011 00", "01Z11001", "11 11"},
		{"strong 3 4", "01X 00", "01ZXX00X", "XX XX"},
		{"strong 3 4", "01Z 00", "01ZZZ00X", "ZZ XX"},
		{"strong 4 3", "010 00", "01ZZZ00X", "ZZ XX"},
		{"strong 4 3", "111 00", "11111001", "11 11"},
		{"strong 4 3", "101 00", "10000000", "00 00"},
		{"strong 4 3", "X11 00", "X1XXX00X", "XX XX"},
		{"strong 5 4", "01Z 00", "01ZZZZ0X", "ZZ XX"},
		{"strong 4 5", "110 Z1", "1111ZZ11", "1Z 1X"},
		{"wired 5 6 1", "110 X1", "11110111", "10 10"},
		{"wired 5 6 0", "110 X1", "11110XX1", "10 10"},
		{"wired 0 1 1", "0X0 00", "XXXX000X", "X0 X0"},
		{"wired 0 1 0", "0X0 00", "00ZZ000X", "Z0 X0"},
	} {
		expectRow(t, c, x)
	}
}

// TestRunBridges has bridges of all models between two inputs that are outputs and feed Dff nodes, with all values.
func TestRunBridges(t *testing.T) {
	c := read("INPUT(a); INPUT(b); p = DFF(a); q = DFF(b); OUTPUT(b); OUTPUT(a); OUTPUT(b)")
	for _, x := range []struct {
		fault string
		table map[string]string // the values of a and b with the fault
	}{
		{"wired 0 1 0", map[string]string{"00": "00", "01": "00", "0X": "00", "0Z": "00", "10": "00", "11": "11", "1X": "XX", "1Z": "XX", "X0": "00", "X1": "XX", "XX": "XX", "XZ": "XX", "Z0": "00", "Z1": "XX", "ZX": "XX", "ZZ": "XX"}},
		{"wired 0 1 1", map[string]string{"00": "00", "01": "11", "0X": "XX", "0Z": "XX", "10": "11", "11": "11", "1X": "11", "1Z": "11", "X0": "XX", "X1": "11", "XX": "XX", "XZ": "XX", "Z0": "XX", "Z1": "11", "ZX": "XX", "ZZ": "XX"}},
		{"strong 0 1", map[string]string{"00": "00", "01": "11", "0X": "XX", "0Z": "ZZ", "10": "00", "11": "11", "1X": "XX", "1Z": "ZZ", "X0": "00", "X1": "11", "XX": "XX", "XZ": "ZZ", "Z0": "00", "Z1": "11", "ZX": "XX", "ZZ": "ZZ"}},
		{"strong 1 0", map[string]string{"00": "00", "01": "00", "0X": "00", "0Z": "00", "10": "11", "11": "11", "1X": "11", "1Z": "11", "X0": "XX", "X1": "XX", "XX": "XX", "XZ": "XX", "Z0": "ZZ", "Z1": "ZZ", "ZX": "ZZ", "ZZ": "ZZ"}},
	} {
		for _, state := range []string{"00", "1X", "Z1"} {
			for before, after := range x.table {
				a, b := after[:1], after[1:]
				next := ""
				for _, v := range values(after) {
					next += logic.Text(logic.Read(v))
				}
				expectRow(t, c, row{x.fault, before + " " + state, after + state, b + a + b + " " + next})
				is, e := Detects(c, parsed(x.fault), patternOf(before+" "+state))
				if want := contradict(values(before)[0], values(a)[0]) || contradict(values(before)[1], values(b)[0]); is != want || e != api.OK {
					t.Errorf("%s, pattern %s: Detects returns %t with error %d", x.fault, before, is, e)
				}
			}
		}
	}
}

// wired returns the circuit of a node whose pins read the given nets, which are Input nodes, or Tri nodes for a Bus. Each net is also an output and read by a Buf; the last node is the one.
func wired(kind api.Kind, nets []int) api.Circuit {
	most := slices.Max(append([]int{0}, nets...)) + 1
	var c api.Circuit
	add := func(n api.Node) { c.Nodes = append(c.Nodes, n) }
	for i := range most {
		if kind == api.Bus {
			add(in(api.Tri, most+2*i, most+2*i+1))
		} else {
			add(in(api.Input))
		}
		c.Outs = append(c.Outs, i)
	}
	if kind == api.Bus {
		for range 2 * most {
			add(in(api.Input))
		}
	}
	for i := range most {
		c.Outs = append(c.Outs, len(c.Nodes))
		add(in(api.Buf, i))
	}
	c.Outs = append(c.Outs, len(c.Nodes))
	add(in(kind, nets...))
	return named(c)
}

// eachList calls f for all lists of n numbers from 0 to limit-1.
func eachList(n, limit int, f func(l []int)) {
	l := make([]int, n)
	for {
		f(l)
		i := 0
		for i < n && l[i] == limit-1 {
			l[i] = 0
			i++
		}
		if i == n {
			return
		}
		l[i]++
	}
}

// eachPattern calls f for all patterns of a circuit with values below limit.
func eachPattern(c api.Circuit, limit int, f func(p api.Pattern)) {
	blank := sims.Blank(c)
	ins := len(blank.In)
	eachList(ins+len(blank.State), limit, func(l []int) {
		var p api.Pattern
		for i, v := range l {
			if i < ins {
				p.In = append(p.In, api.Value(v))
			} else {
				p.State = append(p.State, api.Value(v))
			}
		}
		f(p)
	})
}

// expectPin expects that a line that is stuck changes only what its node reads, or its net.
func expectPin(t *testing.T, c api.Circuit, pin int, v api.Value, p api.Pattern) {
	t.Helper()
	last := len(c.Nodes) - 1
	n := c.Nodes[last]
	good, want, _ := sims.Run(c, p)
	pins := make([]api.Value, len(n.In))
	for k, net := range n.In {
		pins[k] = want[net]
	}
	next := slices.Clone(good.Next)
	switch {
	case pin == -1:
		want[last] = v
	case n.Kind == api.Dff:
		next[0] = v
	default:
		pins[pin] = v
		want[last] = logic.Eval(n.Kind, pins...)
	}
	out := append(slices.Clone(good.Out[:len(good.Out)-1]), want[last])
	f := api.Fault{Line: at(last, pin), Value: v}
	r, nets, e := Run(c, f, p)
	if !slices.Equal(nets, want) || !slices.Equal(r.Out, out) || !slices.Equal(r.Next, next) || e != api.OK {
		t.Errorf("%s of kind %d on %v, pattern %v: nets %s, response %s, error %d", faults.Text(f), n.Kind, n.In, p, logic.Text(nets...), show(r), e)
	}
	a, b := api.Response{Out: good.Out, Next: good.Next}, api.Response{Out: out, Next: next}
	if is, e := Detects(c, f, p); is != isDetected(a, b) || e != api.OK {
		t.Errorf("%s of kind %d on %v, pattern %v: Detects returns %t and error %d", faults.Text(f), n.Kind, n.In, p, is, e)
	}
}

// TestRunKinds has all kinds with up to three pins, which read up to two nets in all ways, with all values.
func TestRunKinds(t *testing.T) {
	count := 0
	for kind := range api.Mem {
		least, most := logic.Fanin(kind)
		for width := least; width <= min(most, 3); width++ {
			eachList(width, 2, func(nets []int) {
				c := wired(kind, nets)
				for pin := -1; pin < width; pin++ {
					for v := range api.V1 + 1 {
						eachPattern(c, 4, func(p api.Pattern) {
							expectPin(t, c, pin, v, p)
							count++
						})
					}
				}
			})
		}
	}
	if count < 10000 {
		t.Errorf("%d cases", count)
	}
}

// TestRunWide has gates with as many pins as there may be, some of which read the same net.
func TestRunWide(t *testing.T) {
	r := random(131)
	for kind := api.And; kind <= api.Bus; kind++ {
		if _, most := logic.Fanin(kind); most < api.MaxFanin {
			continue
		}
		for range 20 {
			c := wired(kind, r.numbers(api.MaxFanin, 0, 12))
			for pin := -1; pin < api.MaxFanin; pin++ {
				for v := range api.V1 + 1 {
					expectPin(t, c, pin, v, r.pattern(c, 4))
				}
			}
		}
	}
}

// TestRunAll compares Run and Detects with the chapter's words for all faults and all patterns of small circuits.
func TestRunAll(t *testing.T) {
	count := 0
	for i, c := range circuits(200, 9) {
		if p := sims.Blank(c); len(p.In)+len(p.State) > 4 {
			continue
		}
		l := all(c, api.Stuck, api.Wired, api.Strong)
		eachPattern(c, 4, func(p api.Pattern) {
			for k, f := range l {
				if len(l) < 40 || (k+count)%7 == 0 {
					expectRun(t, "circuit "+strconv.Itoa(i), c, f, p)
				}
				count++
			}
		})
	}
	if count < 100000 {
		t.Errorf("%d cases", count)
	}
}

// TestRunRandom compares Run and Detects with the chapter's words for larger circuits.
func TestRunRandom(t *testing.T) {
	r := random(132)
	hits := map[api.Model]int{}
	for i, c := range circuits(400, 50) {
		for _, m := range []api.Model{api.Stuck, api.Wired, api.Strong} {
			for range 12 {
				f, ok := r.fault(c, m)
				if !ok {
					break
				}
				p := r.pattern(c, 2+2*api.Value(r.below(2)))
				expectRun(t, "circuit "+strconv.Itoa(i), c, f, p)
				if is, _ := Detects(c, f, p); is {
					hits[m]++
				}
			}
		}
	}
	for _, m := range []api.Model{api.Stuck, api.Wired, api.Strong} {
		if hits[m] < 100 {
			t.Errorf("%d faults of model %d are detected", hits[m], m)
		}
	}
}

// chain returns an Input, MaxNodes-2 Not nodes of which each reads the one before it, or behind it if it descends, and a Dff of the last one.
func chain(descends bool) api.Circuit {
	n := api.MaxNodes
	nodes := make([]api.Node, n)
	for i := range nodes {
		nodes[i] = in(api.Not, i-1)
	}
	nodes[0], nodes[n-1] = in(api.Input), in(api.Dff, n-2)
	c := of([]int{n - 2, 0}, nodes...)
	if descends {
		to := make([]int, n)
		for i := range to {
			to[i] = n - 1 - i
		}
		c = renumbered(c, to)
		c.Outs = []int{1, n - 1}
	}
	return c
}

// TestRunLarge has a fault at the start of a chain of as many nodes as there may be.
func TestRunLarge(t *testing.T) {
	for _, descends := range []bool{false, true} {
		c := chain(descends)
		start, end := 0, api.MaxNodes-1
		if descends {
			start, end = end, start
		}
		for _, x := range []struct {
			f    api.Fault
			want string
			is   bool
		}{
			{api.Fault{Line: at(start, -1), Value: 1}, "11 1", true}, // an even number of Not nodes
			{api.Fault{Line: at(start, -1)}, "00 0", false},
			{api.Fault{Line: at(end, 0), Value: 1}, "00 1", true},
			{api.Fault{Line: at(end, -1), Value: 1}, "00 0", false},
			{api.Fault{Model: api.Strong, Line: at(start, -1), Other: end}, "11 1", true},
			{api.Fault{Model: api.Strong, Line: at(end, -1), Other: start}, "00 0", false},
			{api.Fault{Model: api.Wired, Line: at(min(start, end), -1), Other: max(start, end), Value: 1}, "11 1", true},
			{api.Fault{Model: api.Wired, Line: at(min(start, end), -1), Other: max(start, end)}, "00 0", false},
		} {
			r, nets, e := Run(c, x.f, pattern("0", "1"))
			if show(r) != x.want || len(nets) != api.MaxNodes || e != api.OK {
				t.Errorf("%s: response %s and %d nets with error %d", faults.Text(x.f), show(r), len(nets), e)
			}
			if is, e := Detects(c, x.f, pattern("0", "1")); is != x.is || e != api.OK {
				t.Errorf("%s: Detects returns %t with error %d", faults.Text(x.f), is, e)
			}
		}
	}
}
