package deductives_test

import (
	"math"
	"slices"
	"strconv"
	"testing"

	"probecard/api"
	. "probecard/deductives"
	"probecard/faults"
)

// The errors of both functions, which check the same.

// expectError expects an error of both functions, also by the chapter's words, and nothing else with it.
func expectError(t *testing.T, name string, c api.Circuit, l []api.Fault, p api.Pattern, want api.Errno) {
	t.Helper()
	if e := errorOf(c, l, p); e != want {
		t.Errorf("%s: the chapter asks for %d, not %d", name, e, want)
	}
	expectErrorAlone(t, name, c, l, p, want)
}

// expectErrorAlone does so without the chapter's words, which take their time for long lists.
func expectErrorAlone(t *testing.T, name string, c api.Circuit, l []api.Fault, p api.Pattern, want api.Errno) {
	t.Helper()
	if lists, e := Lists(c, l, p); e != want || e != api.OK && len(lists) > 0 || e == api.OK && len(lists) != len(c.Nodes) {
		t.Errorf("%s: Lists returns %d lists with error %d, not %d", name, len(lists), e, want)
	}
	if found, e := Detected(c, l, p); e != want || e != api.OK && len(found) > 0 || len(found) > len(l) {
		t.Errorf("%s: Detected returns %d faults with error %d, not %d", name, len(found), e, want)
	}
}

// call is the arguments of both functions.
type call struct {
	c api.Circuit
	l []api.Fault
	p api.Pattern
}

// mistake is a change of arguments after which both functions return an error.
type mistake struct {
	name   string
	rank   int // the place of the error among those of the functions
	e      api.Errno
	change func(x *call)
}

// fine returns arguments without errors, with so many nodes that there can be too many entries without too many faults.
func fine() call {
	c := "INPUT(a); INPUT(b); q = DFF(n); INPUT(c); n = NOT(a); g = AND(b, n)"
	for i := range 12 {
		c += "; k" + strconv.Itoa(i) + " = BUF(a)"
	}
	return call{read(c + "; OUTPUT(g)"), list("0 0, 4.0 1, 2.0 1, 5.1 1, 3 0, 2 1"), patternOf("010 1")}
}

// limitMistakes returns lists that are too long.
func limitMistakes() []mistake {
	return []mistake{
		{"too many faults", 1, api.ErrLimit, func(x *call) { x.l = append(x.l, make([]api.Fault, api.MaxFaults)...) }},
		{"too many entries", 1, api.ErrLimit, func(x *call) { // one fault more than there may be for so many nodes
			x.l = append(x.l, make([]api.Fault, MaxEntries/len(x.c.Nodes)+1-len(fine().l))...)
		}},
	}
}

// circuitMistakes returns changes of the circuit, each of which leaves the others' effects.
func circuitMistakes() []mistake {
	return []mistake{
		{"too many outputs", 2, api.ErrLimit, func(x *call) { x.c.Outs = make([]int, api.MaxNodes+1) }},
		{"a name too many", 3, api.ErrWidth, func(x *call) { x.c.Names = append(x.c.Names, "more") }},
		{"a Not of no pins", 4, api.ErrWidth, func(x *call) { x.c.Nodes[4].In = nil }},
		{"an invalid name", 5, api.ErrName, func(x *call) { x.c.Names[0] = "" }},
		{"a memory without address", 6, api.ErrWidth, func(x *call) { x.c.Mems = append(x.c.Mems, api.Memory{Data: []int{0}}) }},
		{"an output behind the nodes", 7, api.ErrArg, func(x *call) {
			if len(x.c.Outs) < 10 {
				x.c.Outs = append(x.c.Outs, 99)
			}
		}},
		{"a loop", 8, api.ErrLoop, func(x *call) { x.c.Nodes[5].In = []int{5, 5} }},
		{"a memory", 9, api.ErrKind, func(x *call) { x.c.Mems = append(x.c.Mems, api.Memory{Addr: []int{0}, Data: []int{0}}) }},
		{"a Tri", 10, api.ErrKind, func(x *call) { x.c.Nodes[15] = in(api.Tri, 0, 1) }},
		{"a Tri and a Bus", 10, api.ErrKind, func(x *call) { x.c.Nodes[16], x.c.Nodes[17] = in(api.Tri, 0, 1), in(api.Bus, 16) }},
	}
}

// faultMistakes returns faults that are invalid, or not of the model Stuck, in different places of the list.
func faultMistakes() []mistake {
	at := func(name string, i int, e api.Errno, f api.Fault) mistake {
		return mistake{name, 11 + i, e, func(x *call) { x.l[i] = f }}
	}
	return []mistake{
		at("a loop first", 0, api.ErrLoop, parsed("wired 0 4 1")),
		at("a slow line first", 0, api.ErrKind, parsed("slow 0 1")),
		at("no node", 1, api.ErrArg, parsed("18 0")),
		at("an invalid slow line", 1, api.ErrArg, parsed("slow 4.1 0")),
		at("a bridge", 2, api.ErrKind, parsed("strong 3 1")),
		at("no pin", 2, api.ErrArg, parsed("5.2 0")),
		at("another net", 3, api.ErrArg, api.Fault{Line: api.Line{Pin: -1}, Other: 1}),
		at("no value", 3, api.ErrArg, api.Fault{Line: api.Line{Pin: -1}, Value: api.VX}),
		at("dependent nets", 4, api.ErrLoop, parsed("strong 5 1")),
		at("no model", 4, api.ErrArg, api.Fault{Model: 4, Line: api.Line{Pin: -1}}),
		at("a bridge in descending order last", 5, api.ErrArg, parsed("wired 1 0 0")),
		at("a wired bridge last", 5, api.ErrKind, parsed("wired 2 3 0")),
		at("a slow line last", 5, api.ErrKind, parsed("slow 2 0")),
	}
}

// patternMistakes returns invalid patterns, and such as are not full.
func patternMistakes() []mistake {
	set := func(name string, rank int, e api.Errno, change func(p *api.Pattern)) mistake {
		return mistake{name, rank, e, func(x *call) { change(&x.p) }}
	}
	return []mistake{
		set("In too long", 20, api.ErrWidth, func(p *api.Pattern) { p.In = append(p.In, 1) }),
		set("State too long", 20, api.ErrWidth, func(p *api.Pattern) { p.State = append(p.State, 1) }),
		set("a value above VZ", 21, api.ErrArg, func(p *api.Pattern) { p.In[0] = 4 }),
		set("a state above VZ", 21, api.ErrArg, func(p *api.Pattern) { p.State[0] = 255 }),
		set("an X", 22, api.ErrArg, func(p *api.Pattern) { p.In[2] = api.VX }),
		set("a Z in the state", 22, api.ErrArg, func(p *api.Pattern) { p.State[0] = api.VZ }),
	}
}

// firstOf returns the error of the lowest rank among some mistakes, and of the last one made if several have it.
func firstOf(l []mistake) api.Errno {
	rank, first := math.MaxInt, api.OK
	for _, m := range l {
		if m.rank <= rank {
			rank, first = m.rank, m.e
		}
	}
	return first
}

// expectMistakes makes mistakes one after the other, and expects the error of the lowest rank.
func expectMistakes(t *testing.T, l ...mistake) {
	t.Helper()
	x := fine()
	name := "mistakes"
	for _, m := range l {
		m.change(&x)
		name += ", " + m.name
	}
	expectError(t, name, x.c, x.l, x.p, firstOf(l))
}

// TestErrors makes each mistake alone, every two of them in both orders, and every two of them before some third ones.
func TestErrors(t *testing.T) {
	l := slices.Concat(limitMistakes(), circuitMistakes(), faultMistakes(), patternMistakes())
	expectMistakes(t)
	for _, a := range l {
		expectMistakes(t, a)
		for _, b := range l {
			expectMistakes(t, a, b)
			for i, c := range l {
				if i%5 == 2 {
					expectMistakes(t, a, b, c)
				}
			}
		}
	}
}

// TestErrorsLimit has as many faults as there may be, and one more, and with circuits of different sizes as many nets times faults and more, with circuits, faults and patterns that are valid or not.
func TestErrorsLimit(t *testing.T) {
	if MaxEntries != 1048576 {
		t.Errorf("MaxEntries is %d", MaxEntries)
	}
	for _, nodes := range []int{1, 2, 15, 16, 17, 18, 31, 32, 33, 100, 1000, 1023, 1024, 1025, 10000, api.MaxNodes - 1, api.MaxNodes} {
		most := min(api.MaxFaults, MaxEntries/nodes)
		c := chain(nodes, false)
		flat := named(api.Circuit{Nodes: make([]api.Node, nodes)}) // only inputs
		full := api.Pattern{In: make([]api.Value, nodes)}
		unnamed, remembering := c, c
		unnamed.Names, remembering.Mems = nil, []api.Memory{{Addr: []int{0}, Data: []int{0}}}
		for _, n := range []int{0, 1, most - 1, most, most + 1, most + 2, 2 * most, api.MaxFaults, api.MaxFaults + 1, 3 * api.MaxFaults} {
			name := strconv.Itoa(nodes) + " nodes, " + strconv.Itoa(n) + " faults"
			of := func(e api.Errno) api.Errno {
				if n > most {
					return api.ErrLimit
				}
				return e
			}
			l := slices.Repeat(list("0 1"), n)
			expectErrorAlone(t, name, flat, l, full, of(api.OK))
			expectErrorAlone(t, name+", no names", unnamed, l, patternOf("1"), of(api.ErrWidth))
			expectErrorAlone(t, name+", a memory", remembering, l, patternOf("1"), of(api.ErrKind))
			expectErrorAlone(t, name+", no pattern", c, l, api.Pattern{}, of(api.ErrWidth))
			expectErrorAlone(t, name+", an X", c, l, patternOf("X"), of(api.ErrArg))
			if n > 0 {
				l[n-1].Line.Node = nodes
				expectErrorAlone(t, name+", the last one invalid", c, l, patternOf("1"), of(api.ErrArg))
				l[n-1] = parsed("slow 0 1")
				expectErrorAlone(t, name+", the last one slow", c, l, patternOf("1"), of(api.ErrKind))
			}
		}
	}
}

// TestErrorsMany has more nodes than there may be, and lists that are too long for circuits without nodes.
func TestErrorsMany(t *testing.T) {
	c := named(api.Circuit{Nodes: make([]api.Node, api.MaxNodes+1)})
	for _, n := range []int{0, 1, 63, 64, api.MaxFaults + 1} {
		expectError(t, "too many nodes", c, slices.Repeat(list("0 1"), n), api.Pattern{}, api.ErrLimit)
	}
	for n := api.MaxFaults - 1; n <= api.MaxFaults+2; n++ {
		want := api.ErrArg
		if n > api.MaxFaults {
			want = api.ErrLimit
		}
		expectError(t, "without nodes", api.Circuit{}, slices.Repeat(list("0 1"), n), api.Pattern{}, want)
	}
}

// TestErrorsCircuits has circuits that faults.Lines refuses, and such as are not plain, with lists and patterns of all sorts.
func TestErrorsCircuits(t *testing.T) {
	tests := []api.Pattern{{}, patternOf("010 101"), patternOf("01X ZZ1"), {In: []api.Value{9, 9, 9}, State: []api.Value{0, 0, 0}}}
	for _, l := range [][]api.Fault{nil, list("1 0"), list("99 0, 0 0"), list("wired 1 3 0, slow 9.3 1, strong 3 1"), list("wired 1 9 0"), {{Model: 9}}} {
		for _, p := range tests {
			for _, x := range flaws() {
				for _, c := range flawed(x.change) {
					expectError(t, x.name, c, l, p, x.want)
				}
			}
			for i, c := range []api.Circuit{withMemory(), withMemNode(), withTri(), withBus()} {
				expectError(t, "not plain "+strconv.Itoa(i), c, l, p, api.ErrKind)
			}
			for _, c := range []api.Circuit{{}, gates()} {
				expectError(t, "plain", c, l, p, errorOf(c, l, p))
			}
		}
	}
	expectError(t, "plain", gates(), list("1 0"), tests[1], api.OK)
	expectError(t, "without nodes", api.Circuit{}, list("0 0"), api.Pattern{}, api.ErrArg)
	expectError(t, "without nodes", api.Circuit{}, nil, patternOf("1"), api.ErrWidth)
	expectError(t, "without nodes", api.Circuit{}, nil, api.Pattern{}, api.OK)
}

// TestErrorsTri has Tri and Bus nodes at each place of a circuit.
func TestErrorsTri(t *testing.T) {
	for i := range 19 {
		nodes := make([]api.Node, 20)
		nodes[i] = in(api.Tri, 19, 19)
		p := api.Pattern{In: make([]api.Value, 19)}
		expectError(t, "a Tri", of(nil, nodes...), list("19 0"), p, api.ErrKind)
		nodes[(i+1)%19] = in(api.Bus, i)
		p.In = p.In[1:]
		expectError(t, "a Bus", of([]int{0}, nodes...), nil, p, api.ErrKind)
		expectError(t, "a Bus", of([]int{0}, nodes...), list("77 0"), api.Pattern{}, api.ErrKind)
		nodes[i], nodes[(i+1)%19] = api.Node{}, api.Node{}
		expectError(t, "inputs", of(nil, nodes...), list("19 0"), api.Pattern{In: make([]api.Value, 20)}, api.OK)
	}
}

// TestErrorsFaults has faults with all fields in and around their ranges, alone and between valid ones.
func TestErrorsFaults(t *testing.T) {
	numbers := []int{math.MinInt, -1 << 32, -2, -1, 0, 1, 2, 3, 4, 5, 6, 7, 1 << 32, math.MaxInt}
	c := read("INPUT(e); INPUT(d); t = OR(e, d); s = BUF(t); q = DFF(s); g = AND(e, d)")
	valid := list("0 0, 4.0 1, 5 1")
	seen := map[api.Errno]int{}
	for _, m := range []api.Model{api.Stuck, api.Slow, api.Wired, api.Strong, 4, 255} {
		for _, node := range numbers {
			for _, pin := range []int{math.MinInt, -2, -1, 0, 1, 2, math.MaxInt} {
				for _, other := range numbers {
					for _, v := range []api.Value{0, 1, 2, 3, 255} {
						f := api.Fault{Model: m, Line: at(node, pin), Value: v, Other: other}
						want := faults.Check(c, f)
						if want == api.OK && m != api.Stuck {
							want = api.ErrKind
						}
						expectErrorAlone(t, "a fault", c, []api.Fault{f}, patternOf("01 1"), want)
						expectErrorAlone(t, "a fault", c, []api.Fault{valid[0], valid[1], f, valid[2]}, patternOf("01 1"), want)
						seen[want]++
					}
				}
			}
		}
	}
	for _, e := range []api.Errno{api.OK, api.ErrArg, api.ErrKind, api.ErrLoop} {
		if seen[e] < 5 {
			t.Errorf("%d faults with error %d", seen[e], e)
		}
	}
}

// TestErrorsFirst has all orders of invalid faults with different errors, of valid ones of other models and of stuck ones: the first one determines the error.
func TestErrorsFirst(t *testing.T) {
	c := read("INPUT(e); INPUT(d); t = OR(e, d); s = BUF(t); q = DFF(s); g = AND(e, d)")
	l := list("strong 2 5, wired 0 5 0, 9 0, slow 5.1 0, slow 5.2 0, 0 1, 4 1, 4.0 0, wired 0 1 1")
	errors := []api.Errno{api.ErrKind, api.ErrLoop, api.ErrArg, api.ErrKind, api.ErrArg, api.OK, api.OK, api.OK, api.ErrKind}
	r := random(175)
	seen := map[api.Errno]int{}
	for _, p := range []api.Pattern{patternOf("01 0"), patternOf("01"), patternOf("ZX 1")} {
		for range 1000 {
			var some []api.Fault
			want := api.OK
			for _, i := range r.permutation(len(l))[:r.below(5)] {
				some = append(some, l[i])
				if want == api.OK {
					want = errors[i]
				}
			}
			if want == api.OK {
				want = errorOf(c, nil, p)
			}
			expectError(t, "faults", c, some, p, want)
			seen[want]++
		}
	}
	for _, e := range []api.Errno{api.OK, api.ErrArg, api.ErrKind, api.ErrLoop, api.ErrWidth} {
		if seen[e] < 30 {
			t.Errorf("%d lists with error %d", seen[e], e)
		}
	}
}

// TestErrorsPlaces has an invalid fault, and a valid one of another model, at each place of a list, alone and before or behind each other.
func TestErrorsPlaces(t *testing.T) {
	p := patternOf("01")
	for i := range 40 {
		l := slices.Repeat(list("0 1, 2.1 0"), 20)
		for _, x := range []struct {
			text string
			want api.Errno
		}{{"slow 0 1", api.ErrKind}, {"wired 0 1 0", api.ErrKind}, {"strong 1 0", api.ErrKind}, {"wired 0 2 0", api.ErrLoop}, {"3 0", api.ErrArg}, {"2.2 1", api.ErrArg}} {
			l[i] = parsed(x.text)
			expectError(t, x.text, example(), l, p, x.want)
			expectError(t, x.text, example(), l, patternOf("0"), x.want)
		}
		for k := range 40 {
			if k != i {
				l := slices.Repeat(list("0 1, 2.1 0"), 20)
				l[i], l[k] = parsed("slow 2 1"), parsed("2.0 1")
				expectErrorAlone(t, "a slow line", example(), l, p, api.ErrKind)
				l[k].Line.Pin = 7
				want := api.ErrKind
				if k < i {
					want = api.ErrArg
				}
				expectErrorAlone(t, "a slow line and an invalid fault", example(), l, p, want)
			}
		}
	}
}

// TestErrorsPatterns has patterns of all lengths around the right ones, with values of a byte.
func TestErrorsPatterns(t *testing.T) {
	c := read("INPUT(a); q = DFF(a); INPUT(b); r = DFF(q); OUTPUT(b)")
	for _, l := range [][]api.Fault{nil, list("0 1, 3.0 0"), list("slow 0 1, 9 0"), list("9 0")} {
		for ins := range 5 {
			for states := range 5 {
				for _, v := range []api.Value{0, 1, 2, 3, 4} {
					p := api.Pattern{In: make([]api.Value, ins), State: make([]api.Value, states)}
					if ins > 0 {
						p.In[ins-1] = v
					}
					expectError(t, "lengths", c, l, p, errorOf(c, l, p))
				}
			}
		}
		for v := range 256 {
			for place := range 4 {
				x := []api.Value{0, 1, 1, 0}
				x[place] = api.Value(v)
				p := api.Pattern{In: x[:2], State: x[2:]}
				want := errorOf(c, l, api.Pattern{In: x[:2:2], State: []api.Value{0, 0}})
				if want == api.OK && v > 1 {
					want = api.ErrArg
				}
				expectError(t, "values", c, l, p, want)
			}
		}
	}
}

// TestErrorsRandom has circuits and lists of random numbers, most of them not valid.
func TestErrorsRandom(t *testing.T) {
	r := random(176)
	seen := map[api.Errno]int{}
	for i := range 8000 {
		c := r.broken()
		if i%3 > 0 {
			c = r.circuit(1 + r.below(9))
		}
		if i%12 == 1 {
			c = r.tristate(c)
		}
		var l []api.Fault
		for range r.below(4) {
			f := api.Fault{Line: at(r.below(len(c.Nodes)+1), r.below(3)-1), Value: api.Value(r.below(9) % 3)}
			if r.below(4) == 0 {
				f.Model = api.Model(r.below(5))
			}
			if f.Model >= api.Wired {
				f.Line.Pin, f.Other = -1, r.below(len(c.Nodes)+2)-1
			}
			l = append(l, f)
		}
		p := r.full(c)
		if r.below(3) == 0 {
			p = r.pattern(c, 6)
		}
		if r.below(8) == 0 {
			p = api.Pattern{In: r.values(r.below(4), 6), State: r.values(r.below(4), 6)}
		}
		want := errorOf(c, l, p)
		expectError(t, "random "+strconv.Itoa(i), c, l, p, want)
		seen[want]++
	}
	for _, e := range []api.Errno{api.OK, api.ErrArg, api.ErrKind, api.ErrWidth, api.ErrLoop} {
		if seen[e] < 20 {
			t.Errorf("%d calls with error %d", seen[e], e)
		}
	}
}
