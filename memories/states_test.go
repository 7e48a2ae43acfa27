package memories_test

import (
	"testing"

	"probecard/api"
	. "probecard/memories"
)

// P9.5

// expectPair checks Below and Same of two states, in both directions.
func expectPair(t *testing.T, name string, a, b State, below, above, same bool) {
	t.Helper()
	if got := Below(a, b); got != below {
		t.Errorf("%s: Below(%s, %s) is %v", name, show(a), show(b), got)
	}
	if got := Below(b, a); got != above {
		t.Errorf("%s: Below(%s, %s) is %v", name, show(b), show(a), got)
	}
	if Same(a, b) != same || Same(b, a) != same {
		t.Errorf("%s: Same(%s, %s) is %v and %v", name, show(a), show(b), Same(a, b), Same(b, a))
	}
}

// TestPairsValues changes each single value of a state.
func TestPairsValues(t *testing.T) {
	places := map[string]func(s State) *api.Value{
		"first of Dff":   func(s State) *api.Value { return &s.Dff[0] },
		"last of Dff":    func(s State) *api.Value { return &s.Dff[2] },
		"first of Words": func(s State) *api.Value { return &s.Words[0][0][0] },
		"last of a word": func(s State) *api.Value { return &s.Words[0][1][2] },
		"last of Words":  func(s State) *api.Value { return &s.Words[1][1][0] },
		"first of Read":  func(s State) *api.Value { return &s.Read[0][0] },
		"last of Read":   func(s State) *api.Value { return &s.Read[1][0] },
	}
	for name, place := range places {
		r := random(11)
		for i := range 256 {
			seed := r
			a, b := seed.state(full(), 3), r.state(full(), 3)
			v, w := api.Value(i/16), api.Value(i%16)
			*place(a), *place(b) = v, w
			unknown := func(v api.Value) bool { return v == api.VX || v > api.VZ }
			below, above := v == w || unknown(v), v == w || unknown(w)
			expectPair(t, name, a, b, below, above, v == w)
		}
	}
}

func TestPairsTable(t *testing.T) {
	for _, x := range []struct {
		a, b               State
		below, above, same bool
	}{
		{State{}, State{}, true, true, true},
		{state("01X"), state("01X"), true, true, true},
		{state("0XX"), state("01X"), true, false, false},
		{state("X1"), state("0X"), false, false, false},
		{state("0", "01,10", "11"), state("0", "01,10", "11"), true, true, true},
		{state("X", "XX,XX", "XX"), state("0", "01,10", "11"), true, false, false},
		{state("X", "01,10", "11"), state("0", "01,10", "1X"), false, false, false},
		{state("X", "01,10", "11"), state("0", "01,1X", "11"), false, false, false},
		{state("0", "01,1X", "11"), state("0", "01,1Z", "11"), true, false, false},
		{state("0", "01,10", "1Z"), state("0", "01,10", "1Z"), true, true, true},
		{state("1", "0", "1"), state("0", "0", "1"), false, false, false},
		{state("1", "0", "1"), state("1", "1", "1"), false, false, false},
		{state("1", "0", "1"), state("1", "0", "0"), false, false, false},
		{state("", "0", "1", "X", "X"), state("", "0", "1", "1", "0"), true, false, false},
		{state("", "0", "1", "X", "X"), state("", "X", "X", "0", "1"), false, false, false},
	} {
		expectPair(t, "table", x.a, x.b, x.below, x.above, x.same)
	}
}

// TestPairsLengths has states of which a part differs in length, although all values that both have are equal.
func TestPairsLengths(t *testing.T) {
	r := random(12)
	for _, m := range lengths() {
		for limit := range 3 {
			seed := r
			a, b := seed.state(full(), limit+1), r.state(full(), limit+1)
			in := r.inputs(full(), 2)
			expectPair(t, "copy", a, b, true, true, true)
			m.change(&b, &in)
			if !sameState(a, b) {
				expectPair(t, m.name, a, b, false, false, false)
			}
		}
	}
	for i, s := range []State{
		{},
		{Dff: values("X")},
		{Words: make([][][]api.Value, 1)},
		{Words: make([][][]api.Value, 2)},
		{Read: make([][]api.Value, 1)},
		{Read: make([][]api.Value, 2)},
		{Words: make([][][]api.Value, 1), Read: make([][]api.Value, 1)},
		{Words: [][][]api.Value{{{}}}},
		{Words: [][][]api.Value{{{}, {}}}},
		{Words: [][][]api.Value{{{}}, {}}},
		{Words: [][][]api.Value{{}, {{}}}},
		{Words: [][][]api.Value{{{api.VX}}}},
		{Read: [][]api.Value{{api.VX}}},
		{Read: [][]api.Value{{api.VX}, {}}},
		{Read: [][]api.Value{{}, {api.VX}}},
	} {
		expectPair(t, "itself", s, s, true, true, true)
		for k, other := range []State{{}, {Dff: values("X")}, {Words: [][][]api.Value{{}, {{}}}}, {Read: make([][]api.Value, 2)}} {
			if k > 0 || i > 0 {
				expectPair(t, "another", s, other, sameState(s, other), sameState(s, other), sameState(s, other))
			}
		}
	}
}

// TestPairsNil has nil slices and empty ones in all parts.
func TestPairsNil(t *testing.T) {
	none, empty := []api.Value(nil), []api.Value{}
	expectPair(t, "empty", State{}, State{Dff: empty, Words: [][][]api.Value{}, Read: [][]api.Value{}}, true, true, true)
	a := State{Words: [][][]api.Value{nil, {none, empty}}, Read: [][]api.Value{none, empty}}
	b := State{Dff: empty, Words: [][][]api.Value{{}, {empty, none}}, Read: [][]api.Value{empty, none}}
	expectPair(t, "empty words", a, b, true, true, true)
}

// TestPairsRandom compares Below and Same with their definitions.
func TestPairsRandom(t *testing.T) {
	r := random(13)
	seen := map[[3]bool]int{}
	for range 3000 {
		c := r.circuit(1+r.below(6), 1)
		a := r.state(c, 1+r.below(3))
		b := r.state(c, 1+r.below(3))
		switch r.below(4) {
		case 0:
			a = Blank(c)
		case 1:
			b = r.raised(a)
		case 2:
			b = r.state(r.circuit(1+r.below(6), 1), 2)
		}
		if r.below(2) == 0 {
			a, b = b, a
		}
		x := [3]bool{belowState(a, b), belowState(b, a), sameState(a, b)}
		seen[x]++
		expectPair(t, "random", a, b, x[0], x[1], x[2])
	}
	for _, x := range [][3]bool{{true, true, true}, {true, false, false}, {false, false, false}, {false, true, false}} {
		if seen[x] < 20 {
			t.Errorf("%v", seen)
		}
	}
}
