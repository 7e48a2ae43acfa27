package words_test

import (
	"reflect"
	"slices"
	"testing"

	"probecard/api"
	. "probecard/words"
)

// The rules R1, R3 and R4, and P1.

// arguments are those of all functions.
type arguments struct {
	values   []api.Value
	number   int
	kind     api.Kind
	words    []Word
	circuit  api.Circuit
	patterns []api.Pattern
}

// results are those of all functions, with empty slices for nil ones.
type results struct {
	fill      Word
	pack      Word
	at        api.Value
	unpack    []api.Value
	eval      Word
	responses []api.Response
	nets      []Word
	e         api.Errno
}

// callAll calls all functions.
func callAll(a arguments) results {
	var r results
	r.fill = Fill(api.Value(a.kind))
	r.pack = Pack(a.values...)
	r.at = r.pack.At(a.number)
	r.unpack = Unpack(r.pack, a.number)
	r.eval = Eval(a.kind, a.words...)
	r.responses, r.nets, r.e = Run(a.circuit, a.patterns...)
	if r.responses == nil {
		r.responses = []api.Response{}
	}
	if r.nets == nil {
		r.nets = []Word{}
	}
	for _, l := range r.lists() {
		if *l == nil {
			*l = []api.Value{}
		}
	}
	return r
}

// lists returns the lists of values of the results.
func (r *results) lists() []*[]api.Value {
	l := []*[]api.Value{&r.unpack}
	for i := range r.responses {
		l = append(l, &r.responses[i].Out, &r.responses[i].Next)
	}
	return l
}

// fit reports whether the capacity of each list is its length.
func (r *results) fit() bool {
	return len(r.responses) == cap(r.responses) && len(r.nets) == cap(r.nets) &&
		!slices.ContainsFunc(r.lists(), func(l *[]api.Value) bool { return len(*l) != cap(*l) })
}

// spoil changes every element of l, and appends to it.
func spoil[T any](l []T, junk T) {
	for i := range l {
		l[i] = junk
	}
	_ = append(l, junk)
}

// spoil changes every element of every list.
func (r *results) spoil() {
	for _, l := range r.lists() {
		spoil(*l, 77)
	}
	spoil(r.nets, Word{77, 78})
	spoil(r.responses, api.Response{Out: []api.Value{77}})
}

// spoil changes every element of all arguments.
func (a *arguments) spoil() {
	spoil(a.values, 66)
	spoil(a.words, Word{66, 67})
	for _, p := range a.patterns {
		spoil(p.In, 66)
		spoil(p.State, 66)
	}
	spoil(a.patterns, api.Pattern{In: []api.Value{66}})
	for _, n := range a.circuit.Nodes {
		spoil(n.In, -66)
	}
	spoil(a.circuit.Outs, -66)
	spoil(a.circuit.Nodes, api.Node{Kind: 66})
	spoil(a.circuit.Names, "spoilt")
}

// room gives copies of lists with junk behind their ends, and remembers them.
type room struct{ checks []func() bool }

// roomFor returns a copy of l with room behind its end.
func roomFor[T any](r *room, l []T, junk T) []T {
	out := slices.Concat(l, []T{junk, junk, junk})
	want := slices.Clone(out)
	r.checks = append(r.checks, func() bool { return reflect.DeepEqual(out, want) })
	return out[:len(l)]
}

// untouched reports whether all copies, and what stands behind them, are as they were.
func (r *room) untouched() bool {
	return !slices.ContainsFunc(r.checks, func(same func() bool) bool { return !same() })
}

// roomy returns equal arguments in memory of their own, with room behind the ends of all lists.
func roomy(a arguments) (arguments, *room) {
	r := &room{}
	ints := func(l []int) []int { return roomFor(r, l, -88) }
	vals := func(l []api.Value) []api.Value { return roomFor(r, l, 88) }
	b := arguments{values: vals(a.values), number: a.number, kind: a.kind, words: roomFor(r, a.words, Word{88, 89})}
	for _, p := range a.patterns {
		b.patterns = append(b.patterns, api.Pattern{In: vals(p.In), State: vals(p.State)})
	}
	b.patterns = roomFor(r, b.patterns, api.Pattern{In: []api.Value{88}})
	c := api.Circuit{Outs: ints(a.circuit.Outs), Names: roomFor(r, a.circuit.Names, "junk")}
	for _, n := range a.circuit.Nodes {
		n.In = ints(n.In)
		c.Nodes = append(c.Nodes, n)
	}
	c.Nodes = roomFor(r, c.Nodes, api.Node{Kind: 88})
	for _, m := range a.circuit.Mems {
		m.Addr, m.Data = ints(m.Addr), ints(m.Data)
		c.Mems = append(c.Mems, m)
	}
	c.Mems = roomFor(r, c.Mems, api.Memory{Write: -88})
	b.circuit = c
	return b, r
}

// samples returns arguments of all sorts, valid or not.
func samples() []arguments {
	r := random(41)
	l := append(circuits(100, 25), withMemory(), withMemNode())
	for _, f := range flaws() {
		for _, c := range flawed(f.change) {
			if len(c.Nodes) < 1000 && len(c.Outs) < 1000 {
				l = append(l, c)
			}
		}
	}
	for range 100 {
		l = append(l, r.broken())
	}
	var samples []arguments
	for _, c := range l {
		n := []int{0, 1, 2, 3, 5, 64, 65}[r.below(7)]
		samples = append(samples, arguments{values: r.values(r.below(70), 6), number: r.below(80) - 5, kind: api.Kind(r.below(18)), words: r.words(r.below(18)), circuit: c, patterns: r.patterns(n, c, 4)})
	}
	for _, m := range mistakes() {
		p := r.patterns(3, full(), 4)
		m.change(&p[r.below(3)])
		samples = append(samples, arguments{circuit: full(), patterns: p, kind: api.Bus, words: r.words(3)})
	}
	return samples
}

// TestArgumentsUnchanged calls all functions, and changes their results: the arguments and what stands behind them stay as they were.
func TestArgumentsUnchanged(t *testing.T) {
	for i, a := range samples() {
		b, r := roomy(a)
		results := callAll(b)
		if !r.untouched() {
			t.Errorf("sample %d: an argument is changed", i)
		}
		results.spoil()
		if !r.untouched() {
			t.Errorf("sample %d: an argument shares memory with a result", i)
		}
	}
}

// TestResultsNew changes results, and then the arguments: neither later nor earlier results change with them.
func TestResultsNew(t *testing.T) {
	for i, a := range samples() {
		b, _ := roomy(a)
		want, first := callAll(b), callAll(b)
		if !want.fit() {
			t.Errorf("sample %d: a result has room behind its end", i)
		}
		first.spoil()
		again := callAll(b)
		b.spoil()
		if !reflect.DeepEqual(again, want) {
			t.Errorf("sample %d: other results after they or the arguments are changed", i)
		}
	}
}

// TestResultsApart changes each list of the results: the others stay as they were.
func TestResultsApart(t *testing.T) {
	for i, a := range samples() {
		want, got := callAll(a), callAll(a)
		for k, l := range got.lists() {
			spoil(*l, 77)
			for other, x := range got.lists()[k+1:] {
				if !slices.Equal(*x, *want.lists()[k+1+other]) {
					t.Errorf("sample %d: the lists %d and %d share memory", i, k, k+1+other)
				}
			}
		}
	}
}

// swapped returns an empty slice for nil, nil for an empty one, and otherwise l.
func swapped[T any](l []T) []T {
	switch {
	case l == nil:
		return []T{}
	case len(l) == 0:
		return nil
	}
	return l
}

// TestNilArguments compares nil slices with empty ones.
func TestNilArguments(t *testing.T) {
	for i, a := range samples() {
		b, _ := roomy(a)
		c := b.circuit
		for k, n := range c.Nodes {
			c.Nodes[k].In = swapped(n.In)
		}
		for k, m := range c.Mems {
			c.Mems[k].Addr, c.Mems[k].Data = swapped(m.Addr), swapped(m.Data)
		}
		for k, p := range b.patterns {
			b.patterns[k] = api.Pattern{In: swapped(p.In), State: swapped(p.State)}
		}
		b.circuit = api.Circuit{Nodes: swapped(c.Nodes), Names: swapped(c.Names), Mems: swapped(c.Mems), Outs: swapped(c.Outs)}
		b.values, b.words, b.patterns = swapped(b.values), swapped(b.words), swapped(b.patterns)
		if got, want := callAll(b), callAll(a); !reflect.DeepEqual(got, want) {
			t.Errorf("sample %d: %+v for nil slices, not %+v", i, got, want)
		}
	}
}

// TestSharedArguments has patterns whose lists share memory with each other.
func TestSharedArguments(t *testing.T) {
	c := of([]int{2}, in(api.Input), in(api.Dff, 2), in(api.Nand, 0, 1))
	for v := range api.VZ + 1 {
		both := []api.Value{v}
		expectRun(t, "shared", c, slices.Repeat([]api.Pattern{{In: both, State: both}}, 64)...)
		if both[0] != v {
			t.Errorf("%d becomes %d", v, both[0])
		}
	}
}

// TestCallsApart checks that calls do not influence each other.
func TestCallsApart(t *testing.T) {
	all := samples()
	var want []results
	for _, a := range all {
		want = append(want, callAll(a))
	}
	for i := len(all) - 1; i >= 0; i-- {
		if got := callAll(all[i]); !reflect.DeepEqual(got, want[i]) {
			t.Errorf("sample %d: %+v, not %+v", i, got, want[i])
		}
	}
}
