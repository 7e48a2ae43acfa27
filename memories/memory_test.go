package memories_test

import (
	"reflect"
	"slices"
	"strconv"
	"testing"

	"probecard/api"
	. "probecard/memories"
)

// The rules R1, R3 and R4, and P1.

// arguments are those of all functions.
type arguments struct {
	circuit      api.Circuit
	state, other State
	in           []api.Value
	words        [][]api.Value
	addr, data   []api.Value
	enable       api.Value
}

// results are those of all functions, with empty slices for nil ones.
type results struct {
	blank       State
	check       api.Errno
	look        []api.Value
	store       [][]api.Value
	next        State
	response    api.Response
	nets        []api.Value
	e           api.Errno
	below, same bool
}

// callAll calls all functions.
func callAll(a arguments) results {
	var r results
	r.blank = Blank(a.circuit)
	r.check = Check(a.circuit, a.state, a.in)
	r.look = Look(a.words, a.addr)
	r.store = Store(a.words, a.addr, a.data, a.enable)
	r.next, r.response, r.nets, r.e = Cycle(a.circuit, a.state, a.in)
	r.below, r.same = Below(a.state, a.other), Same(a.state, a.other)
	for _, s := range []*State{&r.blank, &r.next} {
		s.Words, s.Read = filled(s.Words), filled(s.Read)
		for i := range s.Words {
			s.Words[i] = filled(s.Words[i])
		}
	}
	r.store = filled(r.store)
	for _, l := range r.lists() {
		*l = filled(*l)
	}
	return r
}

// filled returns l, and an empty slice for nil.
func filled[T any](l []T) []T {
	if l == nil {
		return []T{}
	}
	return l
}

// wordLists returns the lists of words of a state.
func wordLists(s State) [][][]api.Value { return append(slices.Clone(s.Words), s.Read) }

// lists returns all lists of values of the results.
func (r *results) lists() []*[]api.Value {
	l := []*[]api.Value{&r.blank.Dff, &r.next.Dff, &r.look, &r.response.Out, &r.response.Next, &r.nets}
	for _, words := range slices.Concat(wordLists(r.blank), wordLists(r.next), [][][]api.Value{r.store}) {
		for i := range words {
			l = append(l, &words[i])
		}
	}
	return l
}

// fit reports whether the capacity of each slice is its length.
func (r *results) fit() bool {
	right := len(r.blank.Words) == cap(r.blank.Words) && len(r.next.Words) == cap(r.next.Words)
	for _, l := range slices.Concat(wordLists(r.blank), wordLists(r.next), [][][]api.Value{r.store}) {
		right = right && len(l) == cap(l)
	}
	return right && !slices.ContainsFunc(r.lists(), func(l *[]api.Value) bool { return len(*l) != cap(*l) })
}

// spoil changes every element of l, and appends to it.
func spoil[T any](l []T, junk T) {
	for i := range l {
		l[i] = junk
	}
	_ = append(l, junk)
}

// spoil changes every element of every slice.
func (r *results) spoil() {
	for _, l := range r.lists() {
		spoil(*l, 77)
	}
	for _, s := range []State{r.blank, r.next} {
		for _, l := range wordLists(s) {
			spoil(l, []api.Value{77})
		}
		spoil(s.Words, [][]api.Value{{77}})
	}
	spoil(r.store, []api.Value{77})
}

// room gives copies of lists with junk behind their ends, and remembers them.
type room struct{ checks []func() bool }

// roomFor returns a copy of l with room behind its end.
func roomFor[T any](r *room, l []T, junk T) []T {
	out := slices.Concat(l, []T{junk, junk, junk})
	want := slices.Clone(out)
	r.checks = append(r.checks, func() bool { return reflect.DeepEqual(out, want) })
	return out[:len(l)]
}

// untouched reports whether all copies, and what stands behind them, are as they were.
func (r *room) untouched() bool {
	return !slices.ContainsFunc(r.checks, func(same func() bool) bool { return !same() })
}

// values returns equal values with room behind their end.
func (r *room) values(l []api.Value) []api.Value { return roomFor(r, l, 88) }

// words returns equal words with room behind the ends of all lists.
func (r *room) words(l [][]api.Value) [][]api.Value {
	var out [][]api.Value
	for _, word := range l {
		out = append(out, r.values(word))
	}
	return roomFor(r, out, []api.Value{88})
}

// state returns an equal state with room behind the ends of all lists.
func (r *room) state(s State) State {
	out := State{Dff: r.values(s.Dff), Read: r.words(s.Read)}
	for _, l := range s.Words {
		out.Words = append(out.Words, r.words(l))
	}
	out.Words = roomFor(r, out.Words, [][]api.Value{{88}})
	return out
}

// circuit returns an equal circuit with room behind the ends of all lists.
func (r *room) circuit(a api.Circuit) api.Circuit {
	ints := func(l []int) []int { return roomFor(r, l, -88) }
	c := api.Circuit{Outs: ints(a.Outs), Names: roomFor(r, a.Names, "junk")}
	for _, n := range a.Nodes {
		n.In = ints(n.In)
		c.Nodes = append(c.Nodes, n)
	}
	c.Nodes = roomFor(r, c.Nodes, api.Node{Kind: 88})
	for _, m := range a.Mems {
		m.Addr, m.Data = ints(m.Addr), ints(m.Data)
		c.Mems = append(c.Mems, m)
	}
	c.Mems = roomFor(r, c.Mems, api.Memory{Write: -88})
	return c
}

// arguments returns equal arguments with room behind the ends of all lists.
func (r *room) arguments(a arguments) arguments {
	return arguments{r.circuit(a.circuit), r.state(a.state), r.state(a.other), r.values(a.in), r.words(a.words), r.values(a.addr), r.values(a.data), a.enable}
}

// samples returns arguments of all sorts, valid or not.
func samples() []arguments {
	r := random(51)
	l := append(circuits(120, 25), full(), full(), row(4))
	for _, f := range flaws() {
		for _, c := range flawed(f.change) {
			if len(c.Nodes) < 1000 && len(c.Outs) < 1000 {
				l = append(l, c)
			}
		}
	}
	for range 60 {
		l = append(l, r.broken())
	}
	sample := func(c api.Circuit, like api.Circuit, limit int) arguments {
		s := r.state(like, limit)
		return arguments{c, s, r.raised(s), r.inputs(like, limit+1), r.words(limit + 2), r.values(r.below(4), limit+2), r.values(r.below(5), limit+2), api.Value(r.below(limit + 2))}
	}
	var all []arguments
	for _, c := range l {
		if len(c.Mems) < 20 && !slices.ContainsFunc(c.Mems, func(m api.Memory) bool { return len(m.Addr) > 8 }) {
			all = append(all, sample(c, c, 2+r.below(3)/2))
		}
		all = append(all, sample(c, full(), 3))
	}
	for _, m := range append(lengths(), strange(4)...) {
		a := sample(full(), full(), 3)
		m.change(&a.state, &a.in)
		all = append(all, a)
	}
	return all
}

// TestSamples checks that the samples are not all alike.
func TestSamples(t *testing.T) {
	seen := map[api.Errno]int{}
	for _, a := range samples() {
		seen[callAll(a).e]++
	}
	if seen[api.OK] < 100 || seen[api.ErrWidth] < 40 || seen[api.ErrArg] < 20 || seen[api.ErrLoop] < 4 {
		t.Errorf("%v", seen)
	}
}

// TestArgumentsUnchanged calls all functions, and changes their results: the arguments and what stands behind them stay as they were.
func TestArgumentsUnchanged(t *testing.T) {
	for i, x := range samples() {
		r := &room{}
		a := r.arguments(x)
		got, want := callAll(a), callAll(x)
		if !r.untouched() {
			t.Errorf("sample %d: an argument is changed", i)
		}
		if !reflect.DeepEqual(got, want) {
			t.Errorf("sample %d: %+v, not %+v, with room behind the arguments", i, got, want)
		}
		got.spoil()
		if !r.untouched() {
			t.Errorf("sample %d: an argument shares memory with a result", i)
		}
		if !reflect.DeepEqual(callAll(a), want) {
			t.Errorf("sample %d: the second results differ", i)
		}
	}
}

// TestResultsApart changes each list of the results: the others stay as they were, also those of other calls. No list has room behind its end.
func TestResultsApart(t *testing.T) {
	for i, a := range samples() {
		if len(a.circuit.Nodes) > 60 {
			continue
		}
		got, want := callAll(a), callAll(a)
		if !got.fit() {
			t.Errorf("sample %d: a result has room behind its end", i)
		}
		lists, wantLists := got.lists(), want.lists()
		for k, l := range lists {
			spoil(*l, 77)
			for n := k + 1; n < len(lists); n++ {
				if !slices.Equal(*lists[n], *wantLists[n]) {
					t.Errorf("sample %d: the lists %d and %d share memory", i, k, n)
				}
			}
		}
		got.spoil()
		if !reflect.DeepEqual(callAll(a), want) {
			t.Errorf("sample %d: the results share memory with later ones", i)
		}
	}
}

// swapped returns an empty slice for nil, nil for an empty one, and otherwise l.
func swapped[T any](l []T) []T {
	switch {
	case l == nil:
		return []T{}
	case len(l) == 0:
		return nil
	}
	return l
}

// swappedWords swaps nil and empty slices in words.
func swappedWords(l [][]api.Value) [][]api.Value {
	l = slices.Clone(l)
	for i := range l {
		l[i] = swapped(l[i])
	}
	return swapped(l)
}

// swappedState swaps nil and empty slices in a state.
func swappedState(s State) State {
	l := slices.Clone(s.Words)
	for i := range l {
		l[i] = swappedWords(l[i])
	}
	return State{Dff: swapped(s.Dff), Words: swapped(l), Read: swappedWords(s.Read)}
}

// TestNilArguments compares nil slices with empty ones.
func TestNilArguments(t *testing.T) {
	for i, a := range samples() {
		r := &room{}
		c := r.circuit(a.circuit)
		for k, n := range c.Nodes {
			c.Nodes[k].In = swapped(n.In)
		}
		for k, m := range c.Mems {
			c.Mems[k].Addr, c.Mems[k].Data = swapped(m.Addr), swapped(m.Data)
		}
		c = api.Circuit{Nodes: swapped(c.Nodes), Names: swapped(c.Names), Mems: swapped(c.Mems), Outs: swapped(c.Outs)}
		b := arguments{c, swappedState(a.state), swappedState(a.other), swapped(a.in), swappedWords(a.words), swapped(a.addr), swapped(a.data), a.enable}
		if got, want := callAll(b), callAll(a); !reflect.DeepEqual(got, want) {
			t.Errorf("sample %d: %+v for nil slices, not %+v", i, got, want)
		}
	}
}

// TestSharedArguments has states and inputs whose lists are all the same memory, and ports whose lists are.
func TestSharedArguments(t *testing.T) {
	c := ram(1, 1)
	c.Nodes = append(c.Nodes, in(api.Dff, 3), in(api.Dff, 0), in(api.Dff, 1))
	c = named(c)
	for i := range 8 {
		all := digits(i, 3, 2)
		word := all[:1]
		s := State{Dff: all, Words: [][][]api.Value{{word, word}}, Read: [][]api.Value{word}}
		expectCycle(t, "shared "+strconv.Itoa(i), c, s, all)
		if !slices.Equal(all, digits(i, 3, 2)) {
			t.Errorf("%v becomes %v", digits(i, 3, 2), all)
		}
	}
	for i := range 256 {
		l := digits(i, 4, 4)
		words := [][]api.Value{l[:2], l[1:3], l[:2], l}
		before := text(words)
		want := storeAt(words, l[:2], l, l[3])
		if got := Store(words, l[:2], l, l[3]); !sameWords(got, want) || text(words) != before {
			t.Errorf("Store with shared arguments %s is %s, not %s", before, text(got), text(want))
		}
		if got, want := Look(words, l[:2]), lookAt(words, l[:2]); !slices.Equal(got, want) || text(words) != before {
			t.Errorf("Look with shared arguments %s is %v, not %v", before, got, want)
		}
	}
}

// TestStrangeCircuits has circuits with any kinds, pins and ports, and states of any shape: nothing panics, and a valid one is simulated.
func TestStrangeCircuits(t *testing.T) {
	r := random(52)
	for range 3000 {
		c := r.broken()
		s := State{Dff: r.values(r.below(3), 4), Words: [][][]api.Value{r.words(3), r.words(4)}[:r.below(3)], Read: r.words(3)}
		all := callAll(arguments{c, s, r.raised(s), r.values(r.below(4), 5), r.words(6), r.values(r.below(70), 3), r.values(r.below(5), 5), api.Value(r.below(6))})
		if all.check != all.e {
			t.Errorf("Check returns %d, Cycle %d", all.check, all.e)
		}
	}
}
