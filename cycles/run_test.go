package cycles_test

import (
	"slices"
	"strconv"
	"testing"

	"probecard/api"
	. "probecard/cycles"
	"probecard/logic"
	"probecard/memories"
)

// P10.1

// TestRunTable has sequences whose responses and last states are computed by hand.
func TestRunTable(t *testing.T) {
	toggle := of([]int{0}, in(api.Dff, 1), in(api.Not, 0))
	for _, x := range []struct {
		name             string
		c                api.Circuit
		s                memories.State
		in               [][]api.Value
		outs, nexts, end string
	}{
		{"example", example(), state("0"), sequence("1 1 0"), "1 0 0 ", "1 0 0 ", "0; ; "},
		{"example", example(), state("X"), sequence("1 0"), "X X ", "X X ", "X; ; "},
		{"register", register(3), state("01X"), sequence("1 Z 0 1"), "X 1 0 1 ", "101 X10 0X1 10X ", "10X; ; "},
		{"toggle", toggle, state("1"), make([][]api.Value, 4), "1 0 1 0 ", "0 1 0 1 ", "1; ; "},
		{"ram", ram(), state("0", "XX,XX,XX,XX", "XX"), sequence("00101 00010 10011 10000 X0000 00001 00000"),
			"XX XX 10 XX 01 XX 10 ", "X X 1 X 0 X 1 ", "1; 00,01,XX,XX; 00"},
		{"ram", ram(), state("0", "00,01,10,11", "10"), sequence("XX00Z 11ZZ1"), "10 XX ", "1 X ", "X; 00,0X,X0,XX; XX"},
		{"empty", api.Circuit{}, memories.State{}, make([][]api.Value, 2), "  ", "  ", "; ; "},
	} {
		got, last, e := Run(x.c, x.s, x.in...)
		if e != api.OK || len(got) != len(x.in) || outs(got) != x.outs || nexts(got) != x.nexts || show(last) != x.end {
			t.Errorf("%s: outputs %s, next states %s, last state %s, error %d", x.name, outs(got), nexts(got), show(last), e)
		}
		expectRun(t, x.name, x.c, x.s, x.in)
	}
}

// TestRunNothing has no cycles: the state is returned, also with memories, and the errors of circuit and state are found.
func TestRunNothing(t *testing.T) {
	r := random(1)
	for i, c := range circuits(200, 20, 2) {
		s := r.state(c, 3)
		for _, none := range [][][]api.Value{nil, {}} {
			got, last, e := Run(c, s, none...)
			if e != api.OK || len(got) != 0 || !sameState(last, s) {
				t.Errorf("circuit %d: without cycles %s becomes %s, with responses %v and error %d", i, show(s), show(last), got, e)
			}
		}
	}
	for _, m := range wrongStates() {
		s := random(2)
		wrong := s.state(full(), 3)
		m.change(&wrong)
		if e := expectRun(t, m.name, full(), wrong, nil); e != m.want {
			t.Errorf("%s without cycles: error %d, not %d", m.name, e, m.want)
		}
	}
	for _, f := range flaws() {
		for _, c := range flawed(f.change) {
			if e := expectRun(t, f.name, c, memories.State{}, nil); e != f.want {
				t.Errorf("%s without cycles: error %d, not %d", f.name, e, f.want)
			}
		}
	}
}

// TestRunLimit has as many cycles as there may be, and more of them with errors of all sorts.
func TestRunLimit(t *testing.T) {
	r := random(3)
	for _, n := range []int{1023, 1024} {
		l := r.sequence(example(), n, 2)
		got, last, e := Run(example(), state("0"), l...)
		sum := api.V0
		for _, v := range slices.Concat(l...) {
			sum ^= v
		}
		if e != api.OK || len(got) != n || logic.Text(last.Dff...) != logic.Text(sum) {
			t.Errorf("%d cycles: %d responses, last state %v, not %d, error %d", n, len(got), last, sum, e)
		}
		expectRun(t, strconv.Itoa(n)+" cycles", ram(), memories.Blank(ram()), r.sequence(ram(), n, 3))
	}
	for _, n := range []int{1025, 1026, 2048, 5000} {
		name := strconv.Itoa(n) + " cycles"
		for _, c := range []api.Circuit{example(), ram(), {}} {
			for _, s := range []memories.State{memories.Blank(c), state("ZZ")} {
				for _, l := range [][][]api.Value{r.sequence(c, n, 4), make([][]api.Value, n), r.sequence(c, n, 6)} {
					if e := expectRun(t, name, c, s, l); e != api.ErrLimit {
						t.Errorf("%s: error %d", name, e)
					}
				}
			}
		}
		for _, f := range flaws() {
			for _, c := range flawed(f.change) {
				if e := expectRun(t, name+", "+f.name, c, memories.State{}, make([][]api.Value, n)); e != api.ErrLimit {
					t.Errorf("%s, %s: error %d", name, f.name, e)
				}
			}
		}
	}
}

// wrongState is a change that makes a state of the circuit full invalid.
type wrongState struct {
	name   string
	want   api.Errno
	change func(s *memories.State)
}

// wrongStates returns changes of lengths and values in each part of a state.
func wrongStates() []wrongState {
	return []wrongState{
		{"Dff too short", api.ErrWidth, func(s *memories.State) { s.Dff = s.Dff[1:] }},
		{"Dff too long", api.ErrWidth, func(s *memories.State) { s.Dff = append(s.Dff, 0) }},
		{"no words", api.ErrWidth, func(s *memories.State) { s.Words = nil }},
		{"a word too few", api.ErrWidth, func(s *memories.State) { s.Words[0] = s.Words[0][1:] }},
		{"a bit too many", api.ErrWidth, func(s *memories.State) { s.Words[1][0] = append(s.Words[1][0], 0) }},
		{"a memory too many read", api.ErrWidth, func(s *memories.State) { s.Read = append(s.Read, s.Read[0]) }},
		{"a bit too few read", api.ErrWidth, func(s *memories.State) { s.Read[1] = nil }},
		{"a Z in Dff", api.ErrArg, func(s *memories.State) { s.Dff[2] = api.VZ }},
		{"a 4 in Words", api.ErrArg, func(s *memories.State) { s.Words[1][1][0] = 4 }},
		{"a Z in Read", api.ErrArg, func(s *memories.State) { s.Read[0][0] = api.VZ }},
	}
}

// wrongInput is the text of inputs that the circuits plain and full have an error for.
type wrongInput struct {
	text string
	want api.Errno
}

// wrongInputs returns inputs with other lengths, with other values, and with both.
func wrongInputs() []wrongInput {
	return []wrongInput{{"", api.ErrWidth}, {"01", api.ErrWidth}, {"01X0", api.ErrWidth}, {"?10", api.ErrArg}, {"ZX?", api.ErrArg}, {"??", api.ErrWidth}, {"????", api.ErrWidth}}
}

// TestRunOrder has errors of circuits, states and inputs together: the circuit's comes first, then the state's, then that of the first cycle that has one.
func TestRunOrder(t *testing.T) {
	r := random(4)
	expect := func(name string, c api.Circuit, s memories.State, l [][]api.Value, want api.Errno) {
		t.Helper()
		if e := expectRun(t, name, c, s, l); e != want {
			t.Errorf("%s: error %d, not %d", name, e, want)
		}
	}
	for _, x := range wrongInputs() {
		for k := range 3 {
			name := strconv.Quote(x.text) + " in cycle " + strconv.Itoa(k)
			l := r.sequence(full(), 3, 4)
			l[k] = values(x.text)
			for _, c := range []api.Circuit{plain(), full()} {
				expect(name, c, r.state(c, 3), l, x.want)
			}
			for _, m := range wrongStates() {
				s := r.state(full(), 3)
				m.change(&s)
				expect(name+", "+m.name, full(), s, l, m.want)
			}
			for _, f := range flaws() {
				for _, c := range flawed(f.change) {
					expect(name+", "+f.name, c, state("ZZZ"), l, f.want)
				}
			}
			for _, y := range wrongInputs() {
				l := append(slices.Clone(l[:k+1]), r.sequence(full(), k, 4)...)
				expect(name+", then "+strconv.Quote(y.text), full(), r.state(full(), 3), append(l, values(y.text)), x.want)
			}
		}
	}
}

// TestRunFlawed has invalid circuits with states and inputs that fit or not.
func TestRunFlawed(t *testing.T) {
	r := random(5)
	for _, f := range flaws() {
		for _, c := range flawed(f.change) {
			for _, like := range []api.Circuit{plain(), full()} {
				if e := expectRun(t, f.name, c, r.state(like, 3), r.sequence(like, 2, 4)); e != f.want {
					t.Errorf("%s: error %d, not %d", f.name, e, f.want)
				}
			}
		}
	}
}

// TestRunRandom compares Run with its definition.
func TestRunRandom(t *testing.T) {
	r := random(6)
	seen := map[api.Errno]int{}
	for i, c := range circuits(500, 25, 2) {
		for k := range 4 {
			s, l := r.state(c, 2+k%2), r.sequence(c, r.below(9), 2+r.below(3))
			seen[expectRun(t, "circuit "+strconv.Itoa(i), c, s, l)]++
		}
		l := r.sequence(c, r.below(5), 4)
		for range r.below(3) {
			l = append(l, r.values(count(c, api.Input)+r.below(2), 5))
		}
		seen[expectRun(t, "circuit "+strconv.Itoa(i), c, r.state(c, 3), append(l, r.sequence(c, 2, 3)...))]++
	}
	if seen[api.OK] < 1000 || seen[api.ErrWidth] < 50 || seen[api.ErrArg] < 10 {
		t.Errorf("%v", seen)
	}
}
