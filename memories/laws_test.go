package memories_test

import (
	"slices"
	"strconv"
	"testing"

	"probecard/api"
	"probecard/logic"
	. "probecard/memories"
	"probecard/netlists"
	"probecard/sims"
)

// P9.6

// raisedValues returns values above l: some of the unknown ones are replaced by others below limit.
func (r *random) raisedValues(l []api.Value, limit int) []api.Value {
	out := slices.Clone(l)
	for i, v := range out {
		if v == api.VX && r.below(3) > 0 {
			out[i] = api.Value(r.below(limit))
		}
	}
	return out
}

// raisedWords returns words above l.
func (r *random) raisedWords(l [][]api.Value) [][]api.Value {
	var out [][]api.Value
	for _, word := range l {
		out = append(out, r.raisedValues(word, 2))
	}
	return out
}

// raised returns a state above s.
func (r *random) raised(s State) State {
	out := State{Dff: r.raisedValues(s.Dff, 2), Read: r.raisedWords(s.Read)}
	for _, l := range s.Words {
		out.Words = append(out.Words, r.raisedWords(l))
	}
	return out
}

// TestMonotone checks that the next state, the response and the values of the nets rise with the state and the inputs, over several cycles.
func TestMonotone(t *testing.T) {
	r := random(21)
	risen := 0
	for i, c := range circuits(400, 30) {
		for range 3 {
			low := r.state(c, 3)
			high := r.raised(low)
			for range 5 {
				in := r.inputs(c, 4)
				above := r.raisedValues(in, 4)
				nextLow, a, before, e := Cycle(c, low, in)
				nextHigh, b, after, f := Cycle(c, high, above)
				if e != api.OK || f != api.OK {
					t.Fatalf("circuit %d: errors %d and %d", i, e, f)
				}
				if !belowState(nextLow, nextHigh) || !Below(nextLow, nextHigh) || !allBelow(before, after) || !allBelow(a.Out, b.Out) || !allBelow(a.Next, b.Next) {
					t.Errorf("circuit %d: from %s to %s: nets %s and %s, next states %s and %s", i, show(low), show(high), logic.Text(before...), logic.Text(after...), show(nextLow), show(nextHigh))
				}
				if !sameWords(slices.Concat(nextLow.Words...), slices.Concat(nextHigh.Words...)) {
					risen++
				}
				low, high = nextLow, nextHigh
			}
		}
	}
	if risen < 300 {
		t.Errorf("in %d cycles words rise", risen)
	}
}

// TestMonotonePorts checks that what Look and Store return rises with each of their arguments, if each index that may match has a word.
func TestMonotonePorts(t *testing.T) {
	r := random(22)
	for range 5000 {
		addr, data, enable := r.values(r.below(5), 3), r.values(r.below(5), 4), r.values(1, 3)
		var l [][]api.Value
		for range 1 << len(addr) {
			l = append(l, r.values(r.below(2)+2, 3))
		}
		aboveWords, aboveAddr, aboveData, aboveEnable := r.raisedWords(l), r.raisedValues(addr, 4), r.raisedValues(data, 4), r.raisedValues(enable, 4)
		low, high := Look(l, addr), Look(aboveWords, aboveAddr)
		if !allBelow(low, high) {
			t.Errorf("Look(%s; %s) is %s, but Look(%s; %s) is %s", text(l), logic.Text(addr...), logic.Text(low...), text(aboveWords), logic.Text(aboveAddr...), logic.Text(high...))
		}
		before, after := Store(l, addr, data, enable[0]), Store(aboveWords, aboveAddr, aboveData, aboveEnable[0])
		if !slices.EqualFunc(before, after, allBelow) {
			t.Errorf("Store(%s; %s, %s) is %s, but Store(%s; %s, %s) is %s", text(l), logic.Text(addr...), logic.Text(data...), text(before), text(aboveWords), logic.Text(aboveAddr...), logic.Text(aboveData...), text(after))
		}
	}
}

// completions returns all lists in which the X of l are replaced by 0 and 1.
func completions(l []api.Value) [][]api.Value {
	out := [][]api.Value{{}}
	for _, v := range l {
		var next [][]api.Value
		for _, head := range out {
			for w := range api.VX {
				if v == w || v == api.VX {
					next = append(next, append(slices.Clone(head), w))
				}
			}
		}
		out = next
	}
	return out
}

// TestExact checks that a bit which Look or Store returns is known if all known addresses, data and enables that the unknown ones stand for agree in it.
func TestExact(t *testing.T) {
	r := random(23)
	for range 1500 {
		width := 1 + r.below(3)
		var l [][]api.Value
		for range 8 {
			l = append(l, r.values(width, 2))
		}
		addr, data, enable := r.values(3, 3), r.values(width, 3), r.values(1, 3)
		var read, stored [][]api.Value
		for _, a := range completions(addr) {
			read = append(read, Look(l, a))
			for _, d := range completions(data) {
				for _, e := range completions(enable) {
					stored = append(stored, slices.Concat(Store(l, a, d, e[0])...))
				}
			}
		}
		if got, want := Look(l, addr), common(read); !slices.Equal(got, want) {
			t.Errorf("Look(%s; %s) is %s, not %s", text(l), logic.Text(addr...), logic.Text(got...), logic.Text(want...))
		}
		if got, want := slices.Concat(Store(l, addr, data, enable[0])...), common(stored); !slices.Equal(got, want) {
			t.Errorf("Store(%s; %s, %s, %s) is %s, not %s", text(l), logic.Text(addr...), logic.Text(data...), logic.Text(enable...), logic.Text(got...), logic.Text(want...))
		}
	}
}

// common returns the values in which all lists agree, and X for the others.
func common(l [][]api.Value) []api.Value {
	out := slices.Clone(l[0])
	for _, other := range l {
		for i, v := range other {
			if v != out[i] {
				out[i] = api.VX
			}
		}
	}
	return out
}

// TestReadBack looks at a known address after a write of any data with enable 1.
func TestReadBack(t *testing.T) {
	r := random(24)
	for range 3000 {
		bits, width := 1+r.below(4), r.below(6)
		var l [][]api.Value
		for range 1 << bits {
			l = append(l, r.values(width, 5))
		}
		addr, data := r.values(bits, 2), r.values(width, 5)
		var want []api.Value
		for _, v := range data {
			want = append(want, logic.Read(v))
		}
		after := Store(l, addr, data, api.V1)
		if got := Look(after, addr); !slices.Equal(got, want) {
			t.Errorf("Look at %s after a write of %s is %s", logic.Text(addr...), logic.Text(data...), logic.Text(got...))
		}
		other := slices.Clone(addr)
		other[r.below(bits)] ^= 1
		if got, want := Look(after, other), Look(l, other); !slices.Equal(got, want) {
			t.Errorf("Look at %s after a write at %s is %s, not %s", logic.Text(other...), logic.Text(addr...), logic.Text(got...), logic.Text(want...))
		}
	}
}

// TestReadBackCycles writes random words of a memory in some cycles, and reads them in others: each read returns what was written last, one cycle later.
func TestReadBackCycles(t *testing.T) {
	c := ram(3, 4)
	r := random(25)
	s := Blank(c)
	words := map[string]string{}
	for i := range 600 {
		addr, data, write := r.values(3, 2), r.values(4, 3), api.Value(r.below(2))
		next, _, _, e := Cycle(c, s, slices.Concat(addr, data, []api.Value{write}))
		want, is := words[logic.Text(addr...)]
		if !is {
			want = "XXXX"
		}
		if got := logic.Text(next.Read[0]...); e != api.OK || got != want {
			t.Errorf("cycle %d: %s read at %s, not %s, error %d", i, got, logic.Text(addr...), want, e)
		}
		if write == api.V1 {
			words[logic.Text(addr...)] = logic.Text(data...)
		}
		s = next
		_, r, _, _ := Cycle(c, s, slicesOf(0, 8))
		if got := logic.Text(r.Out...); got != want {
			t.Errorf("cycle %d: the outputs are %s, not %s", i, got, want)
		}
	}
}

// withoutTri returns the circuit with And for Tri nodes and Or for Bus nodes.
func withoutTri(c api.Circuit) api.Circuit {
	c.Nodes = slices.Clone(c.Nodes)
	for i, n := range c.Nodes {
		switch n.Kind {
		case api.Tri:
			c.Nodes[i].Kind = api.And
		case api.Bus:
			c.Nodes[i] = in(api.Or, append(slices.Clone(n.In), n.In[0])...)
		}
	}
	return c
}

// TestAllKnown has circuits without Tri nodes, and known states and inputs: everything stays known.
func TestAllKnown(t *testing.T) {
	r := random(26)
	for i, c := range circuits(300, 30) {
		c = withoutTri(c)
		s := r.state(c, 2)
		for range 6 {
			next, response, nets, e := Cycle(c, s, r.inputs(c, 2))
			values := slices.Concat(append(slices.Concat(next.Words...), next.Read...)...)
			if e != api.OK || !allKnown(nets) || !allKnown(response.Out) || !allKnown(response.Next) || !allKnown(next.Dff) || !allKnown(values) {
				t.Errorf("circuit %d: nets %s, response %v, next state %s, error %d", i, logic.Text(nets...), response, show(next), e)
			}
			s = next
		}
	}
}

// TestPlainRun compares Cycle with sims.Run for circuits without memories.
func TestPlainRun(t *testing.T) {
	r := random(27)
	plain := 0
	for i, c := range circuits(400, 30) {
		if len(c.Mems) > 0 {
			continue
		}
		plain++
		for range 4 {
			s, in := r.state(c, 3), r.inputs(c, 4)
			next, got, nets, e := Cycle(c, s, in)
			want, wantNets, f := sims.Run(c, api.Pattern{In: in, State: s.Dff})
			if e != api.OK || f != api.OK || !slices.Equal(nets, wantNets) || !slices.Equal(got.Out, want.Out) || !slices.Equal(got.Next, want.Next) || !sameState(next, State{Dff: want.Next}) {
				t.Errorf("circuit %d: nets %s, response %v, next state %s, not %s and %v", i, logic.Text(nets...), got, show(next), logic.Text(wantNets...), want)
			}
		}
	}
	if plain < 60 {
		t.Errorf("%d circuits without memories", plain)
	}
}

// TestObserve compares the response with sims.Observe, and the nets with those of the circuit whose Mem nodes are inputs.
func TestObserve(t *testing.T) {
	r := random(28)
	for i, c := range circuits(300, 30) {
		s, in := r.state(c, 3), r.inputs(c, 4)
		next, got, nets, e := Cycle(c, s, in)
		if want := sims.Observe(c, nets); e != api.OK || !slices.Equal(got.Out, want.Out) || !slices.Equal(got.Next, want.Next) || !slices.Equal(next.Dff, want.Next) {
			t.Errorf("circuit %d: response %v and next state %s, not %v", i, got, show(next), want)
		}
		open := netlists.Copy(c)
		open.Mems = nil
		var all []api.Value
		for k, n := range c.Nodes {
			switch n.Kind {
			case api.Input:
				all = append(all, in[rank(c, k)])
			case api.Mem:
				all = append(all, s.Read[n.Mem][n.Bit])
				open.Nodes[k] = api.Node{Kind: api.Input}
			}
		}
		if _, want, f := sims.Run(open, api.Pattern{In: all, State: s.Dff}); f != api.OK || !slices.Equal(nets, want) {
			t.Errorf("circuit %d: nets %s, not %s, error %d", i, logic.Text(nets...), logic.Text(want...), f)
		}
	}
}

// TestRenumbered checks that the order of the nodes does not matter, apart from that of inputs and states, which are moved with them.
func TestRenumbered(t *testing.T) {
	r := random(29)
	for i, c := range circuits(200, 30) {
		s, in := r.state(c, 3), r.inputs(c, 4)
		next, _, nets, _ := Cycle(c, s, in)
		to := r.permutation(len(c.Nodes))
		d := renumbered(c, to)
		moved := State{Dff: make([]api.Value, len(s.Dff)), Words: s.Words, Read: s.Read}
		movedIn := make([]api.Value, len(in))
		for k, n := range c.Nodes {
			switch n.Kind {
			case api.Input:
				movedIn[rank(d, to[k])] = in[rank(c, k)]
			case api.Dff:
				moved.Dff[rank(d, to[k])] = s.Dff[rank(c, k)]
			}
		}
		got, _, gotNets, e := Cycle(d, moved, movedIn)
		if e != api.OK || !sameState(State{Words: got.Words, Read: got.Read}, State{Words: next.Words, Read: next.Read}) {
			t.Errorf("circuit %s: next state %s, not %s, error %d", strconv.Itoa(i), show(got), show(next), e)
		}
		for k, v := range nets {
			if e == api.OK && gotNets[to[k]] != v {
				t.Errorf("circuit %d: net %d is %d, not %d", i, k, gotNets[to[k]], v)
			}
		}
	}
}
