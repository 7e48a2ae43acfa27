package memories_test

import (
	"slices"
	"strconv"
	"testing"

	"probecard/api"
	"probecard/logic"
	. "probecard/memories"
)

// P9.4

// step is a cycle: the inputs, and what Cycle returns for them, with the state as show writes it.
type step struct{ in, nets, out, next, state string }

// expectCycles runs a circuit from a state, and checks each cycle.
func expectCycles(t *testing.T, name string, c api.Circuit, s State, steps ...step) {
	t.Helper()
	for i, x := range steps {
		next, r, nets, e := Cycle(c, s, values(x.in))
		got := step{x.in, logic.Text(nets...), logic.Text(r.Out...), logic.Text(r.Next...), show(next)}
		if e != api.OK || got != x {
			t.Errorf("%s, cycle %d: %v, not %v, with error %d", name, i, got, x, e)
		}
		s = next
	}
}

func TestCycleSmall(t *testing.T) {
	expectCycles(t, "small", small(), state("1", "01,10", "11"),
		// a w q m0 m1 n x
		step{"00", "0011100", "01", "0", "0; 01,10; 01"},
		step{"11", "1100111", "10", "1", "1; 01,10; 10"}, // it stores 1 0 and reads the old word
		step{"01", "0111001", "11", "0", "0; 01,10; 01"},
		step{"X1", "X100111", "10", "1", "1; XX,10; XX"},
		step{"1X", "1X1XXXX", "XX", "X", "X; XX,XX; 10"},
		step{"01", "01X100X", "X1", "0", "0; 0X,XX; XX"},
		step{"Z0", "Z00XXXX", "XX", "X", "X; 0X,XX; XX"})
}

// TestCycleRam writes and reads words of a memory whose ports are inputs: two address bits, two data bits, write enable.
func TestCycleRam(t *testing.T) {
	expectCycles(t, "ram", ram(2, 2), Blank(ram(2, 2)),
		step{"00001", "00001XX", "XX", "", "; 00,XX,XX,XX; XX"}, // the old word is read
		step{"00111", "00111" + "XX", "XX", "", "; 11,XX,XX,XX; 00"},
		step{"10011", "1001100", "00", "", "; 11,01,XX,XX; XX"},
		step{"01101", "01101XX", "XX", "", "; 11,01,10,XX; XX"},
		step{"11001", "11001XX", "XX", "", "; 11,01,10,00; XX"},
		step{"00XX0", "00XX0XX", "XX", "", "; 11,01,10,00; 11"},
		step{"10000", "1000011", "11", "", "; 11,01,10,00; 01"},
		step{"01110", "0111001", "01", "", "; 11,01,10,00; 10"},
		step{"11ZZ0", "11ZZ010", "10", "", "; 11,01,10,00; 00"},
		step{"1Z11X", "1Z11X00", "00", "", "; 11,X1,10,XX; 0X"},
		step{"00Z0Z", "00Z0Z0X", "0X", "", "; XX,X1,10,XX; 11"},
		step{"XX101", "XX10111", "11", "", "; XX,XX,10,XX; XX"},
		step{"01Z11", "01Z11XX", "XX", "", "; XX,XX,X1,XX; 10"},
		step{"01000", "0100010", "10", "", "; XX,XX,X1,XX; X1"})
}

// TestCycleRow has several memories, of which each reads at the address that the one before it has read in the cycle before.
func TestCycleRow(t *testing.T) {
	s := state("", "00,10,01,11", "00", "11,01,10,00", "00", "01,11,00,10", "00")
	expectCycles(t, "row", row(3), s,
		// address, write, then what each has read; the data are the last memory's bits, the second one first
		step{"100", "100000000", "00", "", "; 00,10,01,11 11,01,10,00 01,11,00,10; 10,11,01"},
		step{"010", "010101101", "01", "", "; 00,10,01,11 11,01,10,00 01,11,00,10; 01,01,10"},
		step{"111", "111010110", "10", "", "; 00,10,01,01 11,01,01,00 01,11,01,10; 11,10,00"},
		step{"11X", "11X111000", "00", "", "; 00,10,01,0X 11,01,01,00 01,XX,01,10; 01,00,11"})
}

// TestCycleBits has a Mem node for each bit, in another order and more than once, and a memory that none reads.
func TestCycleBits(t *testing.T) {
	bit := func(m, b int) api.Node { return api.Node{Kind: api.Mem, Mem: m, Bit: b} }
	c := of([]int{0, 2, 5, 0}, bit(1, 2), bit(0, 0), bit(1, 0), bit(1, 2), in(api.Input), bit(1, 1), bit(0, 0))
	c.Mems = []api.Memory{{Addr: []int{4}, Data: []int{4}, Write: 4}, {Addr: []int{2}, Data: []int{4, 0, 5}, Write: 1}, {Addr: []int{4}, Data: []int{0, 5}, Write: 0}}
	expectCycles(t, "bits", c, state("", "0,1", "1", "011,100", "01X", "01,10", "11"),
		step{"0", "X10X011", "X01X", "", "; 0,1 0X1,100 X1,10; 0,011,01"},
		step{"1", "1001110", "1011", "", "; 0,1 0X1,100 X1,11; 1,0X1,10"},
		step{"X", "1101XX1", "10X1", "", "; X,X X1X,100 XX,1X; X,0X1,X1"})
	wide := ram(1, api.MaxWord)
	for b := range api.MaxWord {
		s := Blank(wide)
		s.Read[0] = slicesOf(0, api.MaxWord)
		s.Read[0][b] = 1
		_, r, _, e := Cycle(wide, s, slicesOf(0, 2+api.MaxWord))
		if e != api.OK || !slices.Equal(r.Out, s.Read[0]) {
			t.Errorf("bit %d: %s, error %d", b, logic.Text(r.Out...), e)
		}
	}
}

// TestCyclePorts has ports that Tri and Bus nodes drive, that share a net, that are inputs, Dff and Mem nodes, and constants.
func TestCyclePorts(t *testing.T) {
	c := of([]int{3, 5}, in(api.Input), in(api.Input), in(api.Tri, 0, 1), in(api.Bus, 2), in(api.Dff, 3), api.Node{Kind: api.Mem, Bit: 1}, in(api.One))
	c.Mems = []api.Memory{{Addr: []int{3}, Data: []int{2, 4}, Write: 6}, {Addr: []int{5, 5}, Data: []int{5}, Write: 4}}
	expectCycles(t, "ports", c, state("1", "00,11", "00", "1,1,1,1", "0"),
		// e d t b q m one
		step{"11", "1111101", "10", "1", "1; 00,11 0,1,1,1; 11,1"},
		step{"10", "1000111", "01", "0", "0; 01,11 0,1,1,1; 00,1"},
		step{"00", "00ZZ001", "Z0", "X", "X; XX,XX 0,1,1,1; X1,0"}, // the address Z, the data Z and 0
		step{"1X", "1XXXX11", "X1", "X", "X; XX,XX 0,1,1,1; XX,1"},
		step{"11", "1111XX1", "1X", "1", "1; XX,1X X,X,X,X; XX,X"})
}

// TestCyclePlain has circuits without memories.
func TestCyclePlain(t *testing.T) {
	expectCycles(t, "plain", plain(), state("10X"),
		step{"110", "1111100011" + "0011101XX0" + "X", "X0X0011", "X00", "X00; ; "})
	expectCycles(t, "empty", api.Circuit{}, State{}, step{"", "", "", "", "; ; "})
}

// expectCycle compares Cycle with its definition, and returns the next state.
func expectCycle(t *testing.T, name string, c api.Circuit, s State, in []api.Value) State {
	t.Helper()
	next, r, got, e := Cycle(c, s, in)
	nets := netsOf(c, s, in)
	want := nextOf(c, s, nets)
	if e != api.OK || !slices.Equal(got, nets) || !slices.Equal(r.Out, at(nets, c.Outs)) || !slices.Equal(r.Next, want.Dff) {
		t.Errorf("%s: nets %s, not %s, response %v, error %d", name, logic.Text(got...), logic.Text(nets...), r, e)
	}
	if !sameState(next, want) {
		t.Errorf("%s: next state %s, not %s", name, show(next), show(want))
	}
	return next
}

// TestCycleRandom compares sequences of cycles with their definition.
func TestCycleRandom(t *testing.T) {
	r := random(9)
	for i, c := range circuits(300, 30) {
		for k := range 4 {
			s := r.state(c, 2+k%2)
			for range 6 {
				s = expectCycle(t, "circuit "+strconv.Itoa(i), c, s, r.inputs(c, 2+k%3))
			}
		}
	}
	for range 200 {
		expectCycle(t, "full", full(), r.state(full(), 3), r.inputs(full(), 4))
	}
}

// TestCycleMost has the most memories, words and bits.
func TestCycleMost(t *testing.T) {
	r := random(10)
	c := most()
	s := r.state(c, 3)
	for k := range 4 {
		s = expectCycle(t, "most", c, s, r.inputs(c, 2+k%3))
	}
	expectCycle(t, "row", row(api.MaxMems), r.state(row(api.MaxMems), 2), values("011"))
	for addr := 1; addr <= api.MaxAddr; addr++ {
		ram := ram(addr, 1+addr)
		s := r.state(ram, 2)
		for range 20 {
			s = expectCycle(t, "ram", ram, s, r.inputs(ram, 2))
		}
	}
}
