package memories_test

import (
	"strconv"
	"testing"

	"probecard/api"
	"probecard/logic"
	. "probecard/memories"
	"probecard/netlists"
)

// P9.1

// expectCheck checks the error of Check, and that Cycle returns the same error and nothing else with it.
func expectCheck(t *testing.T, name string, c api.Circuit, s State, in []api.Value, want api.Errno) {
	t.Helper()
	if e := Check(c, s, in); e != want {
		t.Errorf("%s: Check returns %d, not %d", name, e, want)
	}
	next, r, nets, e := Cycle(c, s, in)
	if e != want {
		t.Errorf("%s: Cycle returns error %d, not %d", name, e, want)
	}
	if e != api.OK && len(nets)+len(r.Out)+len(r.Next)+len(next.Dff)+len(next.Words)+len(next.Read) != 0 {
		t.Errorf("%s: Cycle returns %v, %v and %v with error %d", name, next, r, nets, e)
	}
}

// TestCheckMistakes has every mistake alone, and each length together with a value.
func TestCheckMistakes(t *testing.T) {
	r := random(3)
	for limit := range 3 {
		s, in := r.state(full(), limit+1), r.inputs(full(), limit+2)
		expectCheck(t, "no mistake", full(), s, in, api.OK)
	}
	for _, m := range mistakes() {
		s, in := r.state(full(), 3), r.inputs(full(), 4)
		m.change(&s, &in)
		expectCheck(t, m.name, full(), s, in, m.want)
	}
}

// TestCheckCircuit has circuits that are not valid, with right and wrong states.
func TestCheckCircuit(t *testing.T) {
	r := random(4)
	for _, f := range flaws() {
		for i, c := range flawed(f.change) {
			name := f.name + " " + strconv.Itoa(i)
			expectCheck(t, name, c, State{}, nil, f.want)
			for _, c := range []api.Circuit{plain(), full()} {
				expectCheck(t, name, c, r.state(c, 3), r.inputs(c, 4), api.OK)
			}
			expectCheck(t, name, c, r.state(plain(), 3), r.inputs(plain(), 4), f.want)
			expectCheck(t, name, c, r.state(full(), 3), r.inputs(full(), 4), f.want)
			if len(c.Nodes) > 1000 || len(c.Outs) > 1000 {
				continue
			}
			for _, m := range append(lengths(), strange(4)...) {
				s, in := r.state(full(), 3), r.inputs(full(), 4)
				m.change(&s, &in)
				expectCheck(t, name+", "+m.name, c, s, in, f.want)
			}
		}
	}
	for range 1000 {
		if c := r.broken(); netlists.Check(c) != api.OK {
			expectCheck(t, "broken", c, State{}, nil, netlists.Check(c))
		}
	}
}

// TestCheckPlain has circuits without memories, whose states have no words.
func TestCheckPlain(t *testing.T) {
	for _, none := range []State{{}, {Dff: []api.Value{}, Words: [][][]api.Value{}, Read: [][]api.Value{}}} {
		expectCheck(t, "empty", api.Circuit{}, none, nil, api.OK)
		expectCheck(t, "empty", api.Circuit{}, none, []api.Value{}, api.OK)
		expectCheck(t, "empty", api.Circuit{}, none, values("0"), api.ErrWidth)
		none.Dff = values("010")
		expectCheck(t, "plain", plain(), none, values("01Z"), api.OK)
		none.Dff = values("01Z")
		expectCheck(t, "plain", plain(), none, values("01Z"), api.ErrArg)
	}
	for _, s := range []State{
		{Dff: values("0")},
		{Words: make([][][]api.Value, 1)},
		{Read: make([][]api.Value, 1)},
		{Words: make([][][]api.Value, 1), Read: make([][]api.Value, 1)},
		{Words: [][][]api.Value{{{9}}}, Read: [][]api.Value{{9}}},
	} {
		expectCheck(t, "empty", api.Circuit{}, s, nil, api.ErrWidth)
	}
}

// TestCheckRandom compares Check with the chapter's conditions, also for states of other circuits.
func TestCheckRandom(t *testing.T) {
	r := random(5)
	seen := map[api.Errno]int{}
	for range 4000 {
		c := r.circuit(1+r.below(12), 2)
		other := c
		if r.below(4) == 0 {
			other = r.circuit(1+r.below(12), 2)
		}
		s, in := r.state(other, 3+r.below(5)/4), r.inputs(other, 4+r.below(8)/7)
		want := errorOf(c, s, in)
		seen[want]++
		expectCheck(t, "random", c, s, in, want)
	}
	if seen[api.OK] < 1000 || seen[api.ErrWidth] < 300 || seen[api.ErrArg] < 200 {
		t.Errorf("%v", seen)
	}
}

// expectBlank checks the blank state of a valid circuit.
func expectBlank(t *testing.T, name string, c api.Circuit) {
	t.Helper()
	s := Blank(c)
	unknown := func(l []api.Value, n int) bool {
		return sameWords([][]api.Value{l}, [][]api.Value{slicesOf(api.VX, n)})
	}
	right := unknown(s.Dff, count(c, api.Dff)) && len(s.Words) == len(c.Mems) && len(s.Read) == len(c.Mems)
	for m, memory := range c.Mems {
		right = right && len(s.Words[m]) == 1<<len(memory.Addr) && unknown(s.Read[m], len(memory.Data))
		for _, word := range s.Words[m] {
			right = right && unknown(word, len(memory.Data))
		}
	}
	if !right {
		t.Errorf("%s: Blank returns %s", name, show(s))
	}
	expectCheck(t, name, c, s, slicesOf(api.VX, count(c, api.Input)), api.OK)
}

// slicesOf returns n times the value v.
func slicesOf(v api.Value, n int) []api.Value {
	l := make([]api.Value, n)
	for i := range l {
		l[i] = v
	}
	return l
}

func TestBlankValid(t *testing.T) {
	for _, x := range []struct {
		c    api.Circuit
		want string
	}{
		{api.Circuit{}, "; ; "},
		{plain(), "XXX; ; "},
		{small(), "X; XX,XX; XX"},
		{ram(2, 1), "; X,X,X,X; X"},
		{row(2), "; XX,XX,XX,XX XX,XX,XX,XX; XX,XX"},
		{full(), "XXX; XXX,XXX,XXX,XXX X,X; XXX,X"},
	} {
		if got := show(Blank(x.c)); got != x.want {
			t.Errorf("Blank returns %s, not %s", got, x.want)
		}
	}
	for i, c := range append(circuits(200, 30), most()) {
		expectBlank(t, "circuit "+strconv.Itoa(i), c)
	}
	for addr := 1; addr <= api.MaxAddr; addr++ {
		expectBlank(t, "ram", ram(addr, 1))
	}
	for data := 1; data <= api.MaxWord; data++ {
		expectBlank(t, "ram", ram(1, data))
	}
}

// TestBlankInvalid has circuits that netlists.Check refuses: Blank returns the zero State.
func TestBlankInvalid(t *testing.T) {
	expectNone := func(name string, c api.Circuit) {
		if s := Blank(c); len(s.Dff)+len(s.Words)+len(s.Read) != 0 {
			t.Errorf("%s: Blank returns %s", name, show(s))
		}
	}
	for _, f := range flaws() {
		for _, c := range flawed(f.change) {
			expectNone(f.name, c)
		}
	}
	expectNone("many address bits", api.Circuit{Mems: []api.Memory{{Addr: make([]int, 100), Data: make([]int, 1)}}})
	r := random(6)
	for range 1000 {
		if c := r.broken(); netlists.Check(c) != api.OK {
			expectNone("broken", c)
		}
	}
}

// TestCheckMost has the state of the circuit with the most memories, words and bits, and that state with one value or bit that is wrong.
func TestCheckMost(t *testing.T) {
	s, in := Blank(most()), slicesOf(0, api.MaxAddr+api.MaxWord+1)
	expectCheck(t, "most", most(), s, in, api.OK)
	s.Words[15][255][31] = api.VZ
	expectCheck(t, "a Z", most(), s, in, api.ErrArg)
	s.Words[15][255] = s.Words[15][255][:31]
	expectCheck(t, "a bit too few", most(), s, in, api.ErrWidth)
	s = Blank(most())
	s.Read[15] = append(s.Read[15], 0)
	expectCheck(t, "a bit too many", most(), s, in, api.ErrWidth)
	if text := logic.Text(s.Read[14]...); len(text) != 32 {
		t.Error(text)
	}
}
