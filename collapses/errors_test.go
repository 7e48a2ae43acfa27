package collapses_test

import (
	"math"
	"slices"
	"strconv"
	"testing"

	"probecard/api"
	. "probecard/collapses"
	"probecard/faults"
)

// The errors of all functions.

// expectError expects an error of all functions apart from Expand, and nothing else with it.
func expectError(t *testing.T, name string, c api.Circuit, l []api.Fault, want api.Errno) {
	t.Helper()
	if got, e := Classes(c, l); e != want || e != api.OK && len(got) > 0 {
		t.Errorf("%s: Classes returns %v with error %d, not %d", name, got, e, want)
	}
	if got, e := Reps(c, l); e != want || e != api.OK && len(got) > 0 {
		t.Errorf("%s: Reps returns %v with error %d, not %d", name, got, e, want)
	}
	if got, e := Dominances(c, l); e != want || e != api.OK && len(got) > 0 {
		t.Errorf("%s: Dominances returns %v with error %d, not %d", name, got, e, want)
	}
	if got, e := Core(c, l); e != want || e != api.OK && len(got) > 0 {
		t.Errorf("%s: Core returns %v with error %d, not %d", name, got, e, want)
	}
}

// expectExpandError does the same for Expand.
func expectExpandError(t *testing.T, name string, c api.Circuit, l []api.Fault, detected []int, want api.Errno) {
	t.Helper()
	if got, e := Expand(c, l, detected); e != want || e != api.OK && len(got) > 0 {
		t.Errorf("%s: Expand returns %v with error %d, not %d", name, got, e, want)
	}
}

// expectErrors expects the errors that the chapter's words ask for.
func expectErrors(t *testing.T, name string, c api.Circuit, l []api.Fault, detected []int) {
	t.Helper()
	expectError(t, name, c, l, errorOf(c, l))
	expectExpandError(t, name, c, l, detected, expandError(c, l, detected))
}

// call is the arguments of Expand; the other functions have no indices.
type call struct {
	c        api.Circuit
	l        []api.Fault
	detected []int
}

// mistake is a change of arguments after which all functions, or only Expand, return an error.
type mistake struct {
	name   string
	rank   int // the place of the error among those of a function
	e      api.Errno
	expand bool // whether only Expand returns it
	change func(x *call)
}

// fine returns arguments without errors.
func fine() call {
	return call{
		read("INPUT(a); INPUT(b); q = DFF(n); INPUT(c); n = NOT(a); g = AND(b, n); e = TRI(a, b); OUTPUT(g)"),
		list("0 0, slow 4.0 1, wired 0 1 0, 5.1 1, strong 3 0, 2 1"),
		[]int{0, 5, 3},
	}
}

// circuitMistakes returns changes of the circuit, each of which leaves the others' effects.
func circuitMistakes() []mistake {
	return []mistake{
		{"too many outputs", 2, api.ErrLimit, false, func(x *call) { x.c.Outs = make([]int, api.MaxNodes+1) }},
		{"a name too many", 3, api.ErrWidth, false, func(x *call) { x.c.Names = append(x.c.Names, "more") }},
		{"a Not of no pins", 4, api.ErrWidth, false, func(x *call) { x.c.Nodes[4].In = nil }},
		{"an invalid name", 5, api.ErrName, false, func(x *call) { x.c.Names[0] = "" }},
		{"a memory without address", 6, api.ErrWidth, false, func(x *call) { x.c.Mems = append(x.c.Mems, api.Memory{Data: []int{0}}) }},
		{"an output behind the nodes", 7, api.ErrArg, false, func(x *call) {
			if len(x.c.Outs) < 10 {
				x.c.Outs = append(x.c.Outs, 99)
			}
		}},
		{"a loop", 8, api.ErrLoop, false, func(x *call) { x.c.Nodes[5].In = []int{5, 5} }},
		{"a memory", 9, api.ErrKind, false, func(x *call) { x.c.Mems = append(x.c.Mems, api.Memory{Addr: []int{0}, Data: []int{0}}) }},
	}
}

// faultMistakes returns invalid faults in different places of the list.
func faultMistakes() []mistake {
	at := func(name string, i int, e api.Errno, f api.Fault) mistake {
		return mistake{name, 10 + i, e, false, func(x *call) { x.l[i] = f }}
	}
	return []mistake{
		at("a loop first", 0, api.ErrLoop, parsed("wired 0 4 1")),
		at("no model", 0, api.ErrArg, api.Fault{Model: 4}),
		at("no node", 1, api.ErrArg, parsed("slow 7 0")),
		at("a Tri", 1, api.ErrKind, parsed("wired 3 6 1")),
		at("no pin", 2, api.ErrArg, parsed("5.2 0")),
		at("a Tri as the other net", 2, api.ErrKind, parsed("strong 2 6")),
		at("no value", 3, api.ErrArg, api.Fault{Line: api.Line{Pin: -1}, Value: api.VX}),
		at("dependent nets", 4, api.ErrLoop, parsed("strong 5 1")),
		at("another net of a stuck line", 4, api.ErrArg, api.Fault{Line: api.Line{Pin: -1}, Other: 1}),
		at("a bridge in descending order last", 5, api.ErrArg, parsed("wired 1 0 0")),
		at("a Tri last", 5, api.ErrKind, parsed("strong 6 2")),
	}
}

// otherMistakes returns a list that is too long, and indices that are none.
func otherMistakes() []mistake {
	index := func(name string, i int) mistake {
		return mistake{name, 100, api.ErrArg, true, func(x *call) { x.detected = append(x.detected, i) }}
	}
	return []mistake{
		{"too many faults", 1, api.ErrLimit, false, func(x *call) { x.l = append(x.l, make([]api.Fault, api.MaxFaults)...) }},
		index("an index below 0", -1),
		index("an index behind the list", 6+api.MaxFaults),
	}
}

// firstOf returns the error of the lowest rank among some mistakes, and of the last one made if several change the same.
func firstOf(l []mistake) api.Errno {
	rank, first := math.MaxInt, api.OK
	for _, m := range l {
		if m.rank <= rank {
			rank, first = m.rank, m.e
		}
	}
	return first
}

// expectMistakes makes mistakes one after the other, and expects the errors of the lowest rank.
func expectMistakes(t *testing.T, l ...mistake) {
	t.Helper()
	x := fine()
	name := "mistakes"
	for _, m := range l {
		m.change(&x)
		name += ", " + m.name
	}
	common := slices.DeleteFunc(slices.Clone(l), func(m mistake) bool { return m.expand })
	expectError(t, name, x.c, x.l, firstOf(common))
	expectExpandError(t, name, x.c, x.l, x.detected, firstOf(l))
}

// TestErrors makes each mistake alone, every two of them in both orders, and every two of them before some third ones.
func TestErrors(t *testing.T) {
	l := slices.Concat(circuitMistakes(), faultMistakes(), otherMistakes())
	expectMistakes(t)
	for _, a := range l {
		expectMistakes(t, a)
		for _, b := range l {
			expectMistakes(t, a, b)
			for i, c := range l {
				if i%4 == 1 {
					expectMistakes(t, a, b, c)
				}
			}
		}
	}
}

// TestErrorsCircuits has circuits that netlists.Check refuses and circuits with memories, with lists of all sorts.
func TestErrorsCircuits(t *testing.T) {
	for _, l := range [][]api.Fault{nil, list("1 0"), list("99 0, 0 0"), list("wired 1 3 0, slow 9.3 1, strong 3 1"), {{Model: 9}}, make([]api.Fault, api.MaxFaults)} {
		for _, x := range flaws() {
			for _, c := range flawed(x.change) {
				expectError(t, x.name, c, l, x.want)
				expectExpandError(t, x.name, c, l, []int{0}, x.want)
				expectExpandError(t, x.name, c, l, []int{-1}, x.want)
			}
		}
		for _, c := range []api.Circuit{withMemory(), withMemNode()} {
			expectError(t, "with a memory", c, l, api.ErrKind)
			expectExpandError(t, "with a memory", c, l, nil, api.ErrKind)
			expectExpandError(t, "with a memory", c, l, []int{len(l)}, api.ErrKind)
		}
		expectErrors(t, "without nodes", api.Circuit{}, l, nil)
		expectErrors(t, "plain", plain(), l, []int{0})
	}
	expectError(t, "without nodes", api.Circuit{}, list("0 0"), api.ErrArg)
}

// TestErrorsLimit has lists of as many faults as there may be and more, with circuits that are valid or not.
func TestErrorsLimit(t *testing.T) {
	for n := api.MaxFaults - 1; n <= api.MaxFaults+2; n++ {
		want := api.OK
		if n > api.MaxFaults {
			want = api.ErrLimit
		}
		l := slices.Repeat(list("0 1"), n)
		expectError(t, strconv.Itoa(n)+" faults", example(), l, want)
		expectExpandError(t, strconv.Itoa(n)+" faults", example(), l, []int{0, n - 1}, want)
		invalid := make([]api.Fault, n)
		for i := range invalid {
			invalid[i].Model = 7
		}
		for _, c := range []api.Circuit{example(), {}, withMemory(), {Outs: []int{-1}}, {Names: []string{"a"}}, {Nodes: make([]api.Node, 2)}} {
			expectErrors(t, strconv.Itoa(n)+" invalid faults", c, invalid, []int{-1})
			if n > api.MaxFaults {
				expectError(t, strconv.Itoa(n)+" invalid faults", c, invalid, api.ErrLimit)
				expectExpandError(t, strconv.Itoa(n)+" invalid faults", c, invalid, []int{n}, api.ErrLimit)
			}
		}
		l[len(l)-1] = parsed("2 1")
		last := slices.Clone(l)
		last[len(last)-1].Value = 2
		if n <= api.MaxFaults {
			want = api.ErrArg
		}
		expectError(t, strconv.Itoa(n)+" faults, the last one invalid", example(), last, want)
	}
}

// TestErrorsFaults has faults with all fields in and around their ranges, alone and between valid ones.
func TestErrorsFaults(t *testing.T) {
	numbers := []int{math.MinInt, -1 << 32, -2, -1, 0, 1, 2, 3, 4, 5, 6, 7, 1 << 32, math.MaxInt}
	c := read("INPUT(e); INPUT(d); t = TRI(e, d); s = BUS(t); q = DFF(s); g = AND(e, d)")
	valid := list("0 0, slow 4.0 1, strong 0 1")
	seen := map[api.Errno]int{}
	for _, m := range []api.Model{api.Stuck, api.Slow, api.Wired, api.Strong, 4, 255} {
		for _, node := range numbers {
			for _, pin := range []int{math.MinInt, -2, -1, 0, 1, 2, math.MaxInt} {
				for _, other := range numbers {
					for _, v := range []api.Value{0, 1, 2, 3, 255} {
						f := api.Fault{Model: m, Line: at(node, pin), Value: v, Other: other}
						want := faults.Check(c, f)
						expectError(t, "a fault", c, []api.Fault{f}, want)
						expectExpandError(t, "a fault", c, []api.Fault{valid[0], valid[1], f, valid[2]}, []int{2, 1}, want)
						seen[want]++
					}
				}
			}
		}
	}
	for _, e := range []api.Errno{api.OK, api.ErrArg, api.ErrKind, api.ErrLoop} {
		if seen[e] < 5 {
			t.Errorf("%d faults with error %d", seen[e], e)
		}
	}
}

// TestErrorsFirst has all orders of invalid faults with different errors: the first one determines the error.
func TestErrorsFirst(t *testing.T) {
	c := read("INPUT(e); INPUT(d); t = TRI(e, d); s = BUS(t); q = DFF(s); g = AND(e, d)")
	l := list("wired 0 2 0, wired 0 5 0, 9 0, 0 1, slow 5.1 0, strong 1 4")
	wants := []api.Errno{api.ErrKind, api.ErrLoop, api.ErrArg, api.OK, api.OK, api.OK}
	r := random(147)
	seen := map[api.Errno]int{}
	for range 600 {
		order := r.permutation(len(l))[:1+r.below(len(l))]
		want := api.OK
		var some []api.Fault
		for _, i := range order {
			some = append(some, l[i])
			if want == api.OK {
				want = wants[i]
			}
		}
		expectError(t, "invalid faults", c, some, want)
		expectExpandError(t, "invalid faults", c, some, []int{0}, want)
		seen[want]++
		if want == api.OK {
			want = api.ErrArg
		}
		expectExpandError(t, "invalid faults and index", c, some, []int{0, len(some)}, want)
	}
	for _, e := range []api.Errno{api.OK, api.ErrArg, api.ErrKind, api.ErrLoop} {
		if seen[e] < 30 {
			t.Errorf("%d lists with error %d", seen[e], e)
		}
	}
}

// TestErrorsIndices has lists of indices with one that is none at each place.
func TestErrorsIndices(t *testing.T) {
	l := list("0 0, 0 1, 1 0, 2 1, 2.0 0")
	for _, i := range []int{math.MinInt, -1 << 40, -5, -2, -1, 5, 6, 7, 100, 1 << 32, 1<<32 + 1, math.MaxInt} {
		expectExpandError(t, "an index", example(), l, []int{i}, api.ErrArg)
		for place := range 6 {
			detected := slices.Insert([]int{4, 3, 2, 1, 0}, place, i)
			expectExpandError(t, "an index", example(), l, detected, api.ErrArg)
		}
		expectExpandError(t, "an empty list", example(), nil, []int{i}, api.ErrArg)
		expectExpandError(t, "no nodes", api.Circuit{}, nil, []int{i}, api.ErrArg)
	}
	for i := range 5 {
		expectExpandError(t, "an index", example(), l, []int{i}, api.OK)
	}
	expectExpandError(t, "an empty list", example(), nil, []int{0}, api.ErrArg)
	expectExpandError(t, "no indices", example(), nil, nil, api.OK)
}

// TestErrorsRandom has circuits, lists and indices of random numbers, most of them not valid.
func TestErrorsRandom(t *testing.T) {
	r := random(148)
	seen := map[api.Errno]int{}
	for i := range 8000 {
		c := r.broken()
		if i%3 > 0 {
			c = r.circuit(1 + r.below(9))
		}
		var l []api.Fault
		for range r.below(4) {
			f := api.Fault{Model: api.Model(r.below(9) % 5), Line: at(r.below(len(c.Nodes)+1), r.below(3)-1), Value: api.Value(r.below(9) % 3)}
			if f.Model >= api.Wired {
				f.Line.Pin, f.Other = -1, r.below(len(c.Nodes)+2)-1
			}
			l = append(l, f)
		}
		detected := r.numbers(r.below(3), -1, len(l)+2)
		expectErrors(t, "random "+strconv.Itoa(i), c, l, detected)
		seen[expandError(c, l, detected)]++
	}
	for _, e := range []api.Errno{api.OK, api.ErrArg, api.ErrKind, api.ErrWidth, api.ErrLoop} {
		if seen[e] < 20 {
			t.Errorf("%d calls with error %d", seen[e], e)
		}
	}
}
