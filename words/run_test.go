package words_test

import (
	"slices"
	"strconv"
	"strings"
	"testing"

	"probecard/api"
	"probecard/logic"
	"probecard/sims"
	. "probecard/words"
)

// P7.3

// expectRun checks that Run has no error, and all that it returns.
func expectRun(t *testing.T, name string, c api.Circuit, l ...api.Pattern) {
	t.Helper()
	responses, nets, e := Run(c, l...)
	if e != api.OK || !isRun(c, l, responses, nets) {
		t.Errorf("%s: %v and %v with error %d for the patterns %v", name, responses, nets, e, l)
	}
}

// expectError checks that Run has an error and returns nothing else.
func expectError(t *testing.T, name string, want api.Errno, c api.Circuit, l ...api.Pattern) {
	t.Helper()
	if responses, nets, e := Run(c, l...); e != want || len(responses)+len(nets) > 0 {
		t.Errorf("%s: %v and %v with error %d, not %d", name, responses, nets, e, want)
	}
}

func TestRunExample(t *testing.T) {
	l := []api.Pattern{pattern("0", "1"), pattern("1", "X"), pattern("X", "1")}
	expectRun(t, "example", example(), l...)
	responses, nets, e := Run(example(), l...)
	if e != api.OK || nets[4] != (Word{1, 3}) {
		t.Errorf("%v with error %d", nets, e)
	}
	for i, want := range []struct{ nets, out, next string }{{"0111ZZ", "1Z", "1"}, {"1X0000", "00", "0"}, {"X1XXXX", "XX", "X"}} {
		if s := logic.Text(lanesOf(nets, i)...); s != want.nets {
			t.Errorf("lane %d: %s, not %s", i, s, want.nets)
		}
		if r := responses[i]; logic.Text(r.Out...) != want.out || logic.Text(r.Next...) != want.next {
			t.Errorf("response %d: %v", i, r)
		}
	}
}

// TestRunFull has known and unknown values at all kinds of nodes: each pattern alone, and all of them in several orders.
func TestRunFull(t *testing.T) {
	rows := []struct{ in, state, nets, out, next string }{
		{"110", "10X", "1111100011" + "0011101XX0" + "X", "X0X0011", "X00"},
		{"00Z", "11Z", "1010110ZZ0" + "1110010ZXZ" + "Z", "Z1ZZZ00", "X1X"},
		{"X11", "0X1", "1X011X0X0X" + "1XXX01XXX1" + "1", "X1XX1XX", "XXX"},
		{"100", "X00", "01X01001Z0" + "1011101110" + "0", "1011011", "101"},
		{"01X", "01X", "1001110Z00" + "111001000X" + "X", "010ZX00", "01X"},
		{"0X0", "010", "100X110ZX0" + "1110010XX0" + "0", "X1XZ000", "X1X"},
	}
	for first := range rows {
		order := slices.Concat(rows[first:], rows[:first])
		for _, n := range []int{1, len(rows)} {
			var l []api.Pattern
			for _, x := range order[:n] {
				l = append(l, pattern(x.in, x.state))
			}
			responses, nets, e := Run(full(), l...)
			if e != api.OK || len(responses) != n {
				t.Fatalf("%d responses, error %d", len(responses), e)
			}
			for lane, x := range order[:n] {
				s := logic.Text(lanesOf(nets, lane)...)
				out, next := logic.Text(responses[lane].Out...), logic.Text(responses[lane].Next...)
				if s != x.nets || out != x.out || next != x.next {
					t.Errorf("lane %d: nets %s, response %s and %s, not %v", lane, s, out, next, x)
				}
			}
			expectRun(t, "full", full(), l...)
		}
	}
}

// TestRunCounts has all numbers of patterns.
func TestRunCounts(t *testing.T) {
	r := random(21)
	for n := range 65 {
		for i, c := range circuits(6, 25) {
			expectRun(t, strconv.Itoa(n)+" patterns, circuit "+strconv.Itoa(i), c, r.patterns(n, c, 4)...)
		}
	}
}

// TestRunNone has no pattern: all lanes have the values of the pattern of sims.Blank.
func TestRunNone(t *testing.T) {
	for i, c := range circuits(100, 30) {
		responses, nets, e := Run(c)
		if e != api.OK || len(responses) != 0 || len(nets) != len(c.Nodes) {
			t.Fatalf("circuit %d: %v and %v with error %d", i, responses, nets, e)
		}
		_, blank, _ := sims.Run(c, sims.Blank(c))
		for net, v := range blank {
			if nets[net] != Fill(v) {
				t.Errorf("circuit %d: net %d is %v, not %d", i, net, nets[net], v)
			}
		}
	}
	constants := of([]int{4}, in(api.Zero), in(api.One), in(api.Input), in(api.Tri, 0, 2), in(api.Or, 1, 2))
	if _, nets, e := Run(constants); e != api.OK || !slices.Equal(nets, []Word{Fill(0), Fill(1), {}, Fill(3), Fill(1)}) {
		t.Errorf("constants: %v with error %d", nets, e)
	}
}

// TestRunRandom compares Run with sims.Run for each pattern, of two values or of all.
func TestRunRandom(t *testing.T) {
	r := random(22)
	for i, c := range circuits(300, 40) {
		expectRun(t, "circuit "+strconv.Itoa(i), c, r.patterns(1+r.below(64), c, 2+2*r.below(2))...)
	}
}

// TestRunLarge has circuits at the limits.
func TestRunLarge(t *testing.T) {
	const n = api.MaxNodes
	r := random(23)
	for _, c := range []api.Circuit{chain(n, -1, n-1, 7), chain(n, 1, 0)} {
		expectRun(t, "deep", c, r.patterns(64, c, 4)...)
	}
	nodes, outs := make([]api.Node, n), make([]int, n)
	for i := range nodes {
		outs[i] = n - 1 - i
		switch i % 4 {
		case 1:
			nodes[i] = in(api.Dff, n-1-i)
		case 2:
			nodes[i] = in(api.Xor, r.numbers(api.MaxFanin, max(0, i-2), i)...)
		}
	}
	c := of(outs, nodes...)
	expectRun(t, "wide", c, r.patterns(5, c, 4)...)
}

// TestRunLimit has more than 64 patterns, whatever they and the circuit are like.
func TestRunLimit(t *testing.T) {
	r := random(24)
	for _, n := range []int{65, 66, 127, 128, 129, 1000, api.MaxTests + 1} {
		name := strconv.Itoa(n) + " patterns"
		for _, c := range []api.Circuit{{}, example(), full(), withMemory(), withMemNode()} {
			expectError(t, name, api.ErrLimit, c, r.patterns(n, c, 4)...)
			expectError(t, name+" of wrong values", api.ErrLimit, c, r.patterns(n, c, 9)...)
			expectError(t, name+" of other lengths", api.ErrLimit, c, slices.Repeat([]api.Pattern{pattern("01X01", "")}, n)...)
			expectError(t, name+" of nothing", api.ErrLimit, c, make([]api.Pattern, n)...)
		}
	}
	for _, f := range flaws() {
		for _, c := range flawed(f.change) {
			expectError(t, f.name, api.ErrLimit, c, slices.Repeat([]api.Pattern{pattern("01X", "ZZ0")}, 65)...)
			expectError(t, f.name, api.ErrLimit, c, make([]api.Pattern, 65)...)
		}
	}
}

// TestRunCircuitErrors has circuits that are not valid, with all sorts of patterns and without.
func TestRunCircuitErrors(t *testing.T) {
	for _, f := range flaws() {
		for _, c := range flawed(f.change) {
			expectError(t, f.name, f.want, c)
			expectError(t, f.name, f.want, c, pattern("01X", "ZZ0"))
			expectError(t, f.name, f.want, c, sims.Blank(c))
			for _, m := range mistakes() {
				p := pattern("01X", "ZZ0")
				m.change(&p)
				expectError(t, f.name+", "+m.name, f.want, c, p)
			}
			expectError(t, f.name, f.want, c, make([]api.Pattern, 64)...)
		}
	}
}

// TestRunMemories has circuits with memories: their error comes before those of the patterns, and also without patterns.
func TestRunMemories(t *testing.T) {
	alone := of(nil, in(api.Zero))
	alone.Mems = []api.Memory{{Addr: []int{0}, Data: []int{0}, Write: 0}}
	node := of(nil, in(api.Mem))
	node.Mems = alone.Mems
	for i, c := range []api.Circuit{withMemory(), withMemNode(), alone, node} {
		name := "circuit " + strconv.Itoa(i)
		expectError(t, name, api.ErrKind, c)
		expectError(t, name, api.ErrKind, c, sims.Blank(c))
		expectError(t, name, api.ErrKind, c, slices.Repeat([]api.Pattern{sims.Blank(c)}, 64)...)
		for _, m := range mistakes() {
			p := pattern("01X", "ZZ0")
			m.change(&p)
			expectError(t, name+", "+m.name, api.ErrKind, c, p)
			expectError(t, name+", "+m.name, api.ErrKind, c, pattern("01X", "ZZ0"), p)
		}
	}
	alone.Mems = []api.Memory{}
	expectRun(t, "no memory", alone, api.Pattern{})
}

// TestRunMistakes has each mistake at each place of several lists of patterns without mistakes.
func TestRunMistakes(t *testing.T) {
	r := random(25)
	for _, m := range mistakes() {
		for _, n := range []int{1, 2, 3, 33, 64} {
			for at := range n {
				l := r.patterns(n, full(), 4)
				m.change(&l[at])
				expectError(t, m.name+" at "+strconv.Itoa(at), m.want, full(), l...)
			}
		}
	}
}

// TestRunFirstMistake has two wrong patterns, of which the first one decides.
func TestRunFirstMistake(t *testing.T) {
	r := random(26)
	for _, a := range mistakes() {
		for _, b := range mistakes() {
			for range 4 {
				n := 2 + r.below(63)
				second := 1 + r.below(n-1)
				l := r.patterns(n, full(), 4)
				a.change(&l[r.below(second)])
				b.change(&l[second])
				expectError(t, a.name+" before "+b.name, a.want, full(), l...)
			}
		}
	}
}

// TestRunErrors compares the error of Run with the chapter's words for random circuits and patterns.
func TestRunErrors(t *testing.T) {
	r := random(27)
	seen := map[api.Errno]int{}
	for range 6000 {
		c := r.broken()
		if r.below(3) > 0 {
			c = r.circuit(1 + r.below(12))
		}
		l := r.patterns(r.below(6), c, 4+r.below(2))
		for i := range l {
			if r.below(8) == 0 {
				l[i] = api.Pattern{In: r.values(r.below(4), 5), State: r.values(r.below(3), 5)}
			}
		}
		if r.below(8) == 0 {
			l = slices.Repeat(l, 20)
		}
		want := errorOf(c, l)
		seen[want]++
		if responses, nets, e := Run(c, l...); e != want || e != api.OK && len(responses)+len(nets) > 0 {
			t.Errorf("%v and %v with error %d, not %d, for %v and %v", responses, nets, e, want, c, l)
		}
	}
	for e, least := range map[api.Errno]int{api.OK: 1000, api.ErrLimit: 100, api.ErrArg: 300, api.ErrWidth: 300, api.ErrKind: 100} {
		if seen[e] < least {
			t.Errorf("errors %v", seen)
		}
	}
}

// TestRunEmpty has the circuit without nodes, for which every pattern without values fits.
func TestRunEmpty(t *testing.T) {
	for _, none := range [][]api.Value{nil, {}} {
		for _, n := range []int{0, 1, 64} {
			expectRun(t, "empty", api.Circuit{}, slices.Repeat([]api.Pattern{{In: none, State: none}}, n)...)
		}
		expectError(t, "empty", api.ErrWidth, api.Circuit{}, api.Pattern{}, api.Pattern{In: none, State: values("0")})
		expectError(t, "empty", api.ErrWidth, api.Circuit{}, api.Pattern{}, api.Pattern{In: []api.Value{9}, State: none})
		expectError(t, "empty", api.ErrLimit, api.Circuit{}, slices.Repeat([]api.Pattern{{In: none, State: none}}, 65)...)
	}
}

// TestRunGates has each kind with many inputs, and a Dff that reads it: Next has X where the net is Z.
func TestRunGates(t *testing.T) {
	r := random(28)
	for kind := api.Zero; kind <= api.Bus; kind++ {
		least, most := logic.Fanin(kind)
		for n := least; n <= most; n++ {
			nodes := []api.Node{in(api.Dff, 1), in(kind)}
			for range n {
				nodes = append(nodes, in(api.Input))
				if last := len(nodes); kind == api.Bus {
					nodes = append(nodes, in(api.Input), in(api.Tri, last-1, last))
				}
				nodes[1].In = append(nodes[1].In, len(nodes)-1)
			}
			c := of([]int{1, 0, 1}, nodes...)
			expectRun(t, "kind "+strconv.Itoa(int(kind)), c, r.patterns(64, c, 4)...)
		}
	}
	c := of([]int{1}, in(api.Dff, 1), in(api.Tri, 2, 2), in(api.Input))
	responses, _, e := Run(c, pattern("0", "0"), pattern("1", "Z"), pattern("Z", "X"))
	var texts []string
	for _, r := range responses {
		texts = append(texts, logic.Text(r.Out...)+logic.Text(r.Next...))
	}
	if s := strings.Join(texts, " "); e != api.OK || s != "ZX 11 XX" {
		t.Errorf("a Dff of a Tri: %s with error %d", s, e)
	}
}
