package inject_test

import (
	"math"
	"strconv"
	"testing"

	"probecard/api"
	"probecard/faults"
	. "probecard/inject"
	"probecard/netlists"
)

// The errors of P13.1, P13.2, P13.4 and P13.5.

// isNone reports whether a response and values are the zero values.
func isNone(r api.Response, nets []api.Value) bool { return len(r.Out)+len(r.Next)+len(nets) == 0 }

// expectRunError expects an error of Run and Detects, also by the chapter's words, and nothing else with it.
func expectRunError(t *testing.T, name string, c api.Circuit, f api.Fault, p api.Pattern, want api.Errno) {
	t.Helper()
	if e := runError(c, f, p); e != want {
		t.Errorf("%s: the chapter asks for %d, not %d", name, e, want)
	}
	if r, nets, e := Run(c, f, p); e != want || e != api.OK && !isNone(r, nets) {
		t.Errorf("%s: Run returns %v and %v with error %d, not %d", name, r, nets, e, want)
	}
	if is, e := Detects(c, f, p); e != want || e != api.OK && is {
		t.Errorf("%s: Detects returns %t with error %d, not %d", name, is, e, want)
	}
}

// expectPairError does the same for Pair and PairDetects.
func expectPairError(t *testing.T, name string, c api.Circuit, f api.Fault, first, second api.Pattern, want api.Errno) {
	t.Helper()
	if e := pairError(c, f, first, second); e != want {
		t.Errorf("%s: the chapter asks for %d, not %d", name, e, want)
	}
	if r, nets, e := Pair(c, f, first, second); e != want || e != api.OK && !isNone(r, nets) {
		t.Errorf("%s: Pair returns %v and %v with error %d, not %d", name, r, nets, e, want)
	}
	if is, e := PairDetects(c, f, first, second); e != want || e != api.OK && is {
		t.Errorf("%s: PairDetects returns %t with error %d, not %d", name, is, e, want)
	}
}

// expectCutError does the same for Cut.
func expectCutError(t *testing.T, name string, c api.Circuit, f api.Fault, want api.Errno) {
	t.Helper()
	if e := cutError(c, f); e != want {
		t.Errorf("%s: the chapter asks for %d, not %d", name, e, want)
	}
	d, e := Cut(c, f)
	if e != want || e != api.OK && len(d.Nodes)+len(d.Names)+len(d.Mems)+len(d.Outs) > 0 {
		t.Errorf("%s: Cut returns a circuit of %d nodes with error %d, not %d", name, len(d.Nodes), e, want)
	}
}

// expectErrors expects the errors of all functions that the chapter's words ask for.
func expectErrors(t *testing.T, name string, c api.Circuit, f api.Fault, first, second api.Pattern) {
	t.Helper()
	expectRunError(t, name, c, f, first, runError(c, f, first))
	expectRunError(t, name, c, f, second, runError(c, f, second))
	expectPairError(t, name, c, f, first, second, pairError(c, f, first, second))
	expectCutError(t, name, c, f, cutError(c, f))
}

// call is the arguments of all functions; Run, Detects and Cut have only the first pattern, or none.
type call struct {
	c             api.Circuit
	f             api.Fault
	first, second api.Pattern
}

// mistake is a change of arguments after which some of the functions return an error.
type mistake struct {
	name           string
	rank           int // the place of the error among those of a function
	run, pair, cut api.Errno
	change         func(x *call)
}

// common returns a mistake that is the same for all functions: one of the circuit or the fault.
func common(name string, rank int, e api.Errno, change func(x *call)) mistake {
	return mistake{name, rank, e, e, e, change}
}

// circuitMistakes returns changes of the circuit twin, each of which leaves the others' effects.
func circuitMistakes() []mistake {
	return []mistake{
		common("too many outputs", 1, api.ErrLimit, func(x *call) { x.c.Outs = make([]int, api.MaxNodes+1) }),
		common("a name too many", 2, api.ErrWidth, func(x *call) { x.c.Names = append(x.c.Names, "more") }),
		common("a Not of no pins", 3, api.ErrWidth, func(x *call) { x.c.Nodes[4].In = nil }),
		common("an invalid name", 4, api.ErrName, func(x *call) { x.c.Names[0] = "" }),
		common("a memory without address", 5, api.ErrWidth, func(x *call) { x.c.Mems = append(x.c.Mems, api.Memory{Data: []int{0}}) }),
		common("an output behind the nodes", 6, api.ErrArg, func(x *call) {
			if len(x.c.Outs) < 10 {
				x.c.Outs = append(x.c.Outs, 99)
			}
		}),
		common("a loop", 7, api.ErrLoop, func(x *call) { x.c.Nodes[5].In = []int{5, 5} }),
		common("a memory", 8, api.ErrKind, func(x *call) { x.c.Mems = append(x.c.Mems, api.Memory{Addr: []int{0}, Data: []int{0}}) }),
	}
}

// faultMistakes returns changes of a fault of the circuit twin, each of which leaves the others' effects. Those of bridges change no stuck or slow line.
func faultMistakes() []mistake {
	isBridge := func(x *call) bool { return x.f.Model == api.Wired || x.f.Model == api.Strong }
	return []mistake{
		common("no model", 9, api.ErrArg, func(x *call) { x.f.Model = 4 }),
		common("no value", 9, api.ErrArg, func(x *call) { x.f.Value = api.VZ }),
		common("no node", 9, api.ErrArg, func(x *call) { x.f.Line.Node = -1 }),
		common("no pin", 9, api.ErrArg, func(x *call) { x.f.Line.Pin = 2 }),
		common("no other net", 9, api.ErrArg, func(x *call) { x.f.Other = 77 }),
		common("a bridge to itself, or another net", 9, api.ErrArg, func(x *call) {
			x.f.Other = 1
			if isBridge(x) {
				x.f.Other = x.f.Line.Node
			}
		}),
	}
}

// patternMistakes returns changes of the patterns, each of which leaves the others' effects.
func patternMistakes() []mistake {
	return []mistake{
		{"In of the first pattern too long", 11, api.ErrWidth, api.ErrWidth, api.OK, func(x *call) { x.first.In = append([]api.Value{1}, x.first.In...) }},
		{"no State in the first pattern", 11, api.ErrWidth, api.ErrWidth, api.OK, func(x *call) { x.first.State = nil }},
		{"a value above VZ in the first In", 12, api.ErrArg, api.ErrArg, api.OK, func(x *call) { x.first.In[0] = 4 }},
		{"a value above VZ last in the first In", 12, api.ErrArg, api.ErrArg, api.OK, func(x *call) { x.first.In[len(x.first.In)-1] = 255 }},
		{"In of the second pattern too short", 13, api.OK, api.ErrWidth, api.OK, func(x *call) { x.second.In = x.second.In[:len(x.second.In)-1] }},
		{"State of the second pattern too long", 13, api.OK, api.ErrWidth, api.OK, func(x *call) { x.second.State = append(x.second.State, 0) }},
		{"a value above VZ in the second In", 14, api.OK, api.ErrArg, api.OK, func(x *call) { x.second.In[0] = 128 }},
		{"a value above VZ in the second State", 14, api.OK, api.ErrArg, api.OK, func(x *call) { x.second.State[0] = 5 }},
	}
}

// modelMistakes returns the mistakes that the model of a valid fault is for the functions.
func modelMistakes(m api.Model) []mistake {
	if m == api.Slow {
		return []mistake{{"a slow line", 10, api.ErrKind, api.OK, api.ErrKind, func(*call) {}}}
	}
	return []mistake{{"no slow line", 10, api.OK, api.ErrKind, api.OK, func(*call) {}}}
}

// twin returns a circuit whose nets 0, 1 and 2 do not depend on each other, a valid fault of it and two valid patterns.
func twin(fault string) call {
	return call{read("INPUT(a); INPUT(b); q = DFF(n); INPUT(c); n = NOT(a); g = AND(b, n); OUTPUT(g)"), parsed(fault), pattern("010", "1"), pattern("11X", "0")}
}

// firstOf returns the error of the lowest rank that is not OK.
func firstOf(l []mistake, errorOf func(m mistake) api.Errno) api.Errno {
	rank, first := math.MaxInt, api.OK
	for _, m := range l {
		if e := errorOf(m); e != api.OK && m.rank < rank {
			rank, first = m.rank, e
		}
	}
	return first
}

// expectMistakes makes mistakes one after the other, and expects the errors of the lowest rank.
func expectMistakes(t *testing.T, fault string, l ...mistake) {
	t.Helper()
	x := twin(fault)
	name := fault
	for _, m := range l {
		m.change(&x)
		name += ", " + m.name
	}
	l = append(l, modelMistakes(parsed(fault).Model)...)
	expectRunError(t, name, x.c, x.f, x.first, firstOf(l, func(m mistake) api.Errno { return m.run }))
	expectPairError(t, name, x.c, x.f, x.first, x.second, firstOf(l, func(m mistake) api.Errno { return m.pair }))
	expectCutError(t, name, x.c, x.f, firstOf(l, func(m mistake) api.Errno { return m.cut }))
}

// TestErrors makes each mistake alone, every two of them in both orders, and every two of them before some third ones.
func TestErrors(t *testing.T) {
	l := append(append(circuitMistakes(), faultMistakes()...), patternMistakes()...)
	for _, fault := range []string{"stuck 0 0", "stuck 5.1 1", "stuck 2.0 1", "slow 0 1", "slow 5.0 0", "slow 2 0", "wired 0 1 0", "wired 1 2 1", "strong 0 1", "strong 3 0"} {
		expectMistakes(t, fault)
		for _, a := range l {
			expectMistakes(t, fault, a)
			for _, b := range l {
				expectMistakes(t, fault, a, b)
				for i, c := range l {
					if i%4 == 1 {
						expectMistakes(t, fault, a, b, c)
					}
				}
			}
		}
	}
}

// TestErrorsCircuits has circuits that netlists.Check refuses and circuits with memories, with faults and patterns of all sorts.
func TestErrorsCircuits(t *testing.T) {
	var l []api.Fault
	for _, s := range []string{"stuck 1 0", "stuck 9.3 1", "slow 3 1", "slow 20.0 0", "wired 1 3 0", "strong 3 1", "wired 3 1 0", "wired 1 7 1", "strong 1 16", "stuck 77 0", "slow 1.5 0"} {
		l = append(l, parsed(s))
	}
	l = append(l, api.Fault{Model: 9}, api.Fault{Line: at(-1, -1)}, api.Fault{Line: at(0, -1), Value: api.VX}, api.Fault{Line: at(0, -1), Other: 1})
	patterns := []api.Pattern{pattern("01X", "ZZ1"), pattern("01", "000"), {In: []api.Value{0, 1, 9}, State: []api.Value{0, 0, 0}}, {}}
	for i, p := range patterns {
		q := patterns[(i+1)%len(patterns)]
		for _, f := range l {
			for _, x := range flaws() {
				for _, c := range flawed(x.change) {
					expectRunError(t, x.name, c, f, p, x.want)
					expectPairError(t, x.name, c, f, p, q, x.want)
					expectCutError(t, x.name, c, f, x.want)
				}
			}
			for _, c := range []api.Circuit{withMemory(), withMemNode()} {
				expectRunError(t, "with a memory", c, f, p, api.ErrKind)
				expectPairError(t, "with a memory", c, f, p, q, api.ErrKind)
				expectCutError(t, "with a memory", c, f, api.ErrKind)
			}
			expectRunError(t, "without nodes", api.Circuit{}, f, p, api.ErrArg)
			expectPairError(t, "without nodes", api.Circuit{}, f, p, q, api.ErrArg)
			expectCutError(t, "without nodes", api.Circuit{}, f, api.ErrArg)
			expectErrors(t, "plain", plain(), f, p, q)
		}
	}
}

// TestErrorsFaults has faults with all fields in and around their ranges.
func TestErrorsFaults(t *testing.T) {
	numbers := []int{math.MinInt, -1 << 32, -2, -1, 0, 1, 2, 3, 4, 5, 6, 7, 1 << 32, math.MaxInt}
	c := read("INPUT(e); INPUT(d); t = TRI(e, d); s = BUS(t); q = DFF(s); g = AND(e, d)")
	seen := map[api.Errno]int{}
	for _, m := range []api.Model{api.Stuck, api.Slow, api.Wired, api.Strong, 4, 255} {
		for _, node := range numbers {
			for _, pin := range []int{math.MinInt, -2, -1, 0, 1, 2, math.MaxInt} {
				for _, other := range numbers {
					for _, v := range []api.Value{0, 1, 2, 3, 4, 255} {
						f := api.Fault{Model: m, Line: at(node, pin), Value: v, Other: other}
						expectErrors(t, "fault", c, f, pattern("10", "X"), pattern("01", "1"))
						seen[runError(c, f, pattern("10", "X"))]++
					}
				}
			}
		}
	}
	for _, e := range []api.Errno{api.OK, api.ErrArg, api.ErrKind, api.ErrLoop} {
		if seen[e] < 5 {
			t.Errorf("%d faults with error %d", seen[e], e)
		}
	}
}

// TestErrorsPatterns has patterns of all lengths around the right ones, with values of a byte.
func TestErrorsPatterns(t *testing.T) {
	c := read("INPUT(a); q = DFF(a); INPUT(b); r = DFF(q); OUTPUT(b)")
	for _, s := range []string{"stuck 0 1", "stuck 3.0 0", "slow 0 1", "slow 3 0", "wired 0 2 0", "strong 1 3"} {
		for ins := range 5 {
			for states := range 5 {
				p := api.Pattern{In: make([]api.Value, ins), State: make([]api.Value, states)}
				expectErrors(t, s, c, parsed(s), p, pattern("00", "11"))
				expectErrors(t, s, c, parsed(s), pattern("00", "11"), p)
				expectErrors(t, s, c, parsed(s), p, p)
			}
		}
		for v := range 256 {
			for place := range 4 {
				l := []api.Value{0, 1, 2, 3}
				l[place] = api.Value(v)
				p := api.Pattern{In: l[:2], State: l[2:]}
				expectErrors(t, s, c, parsed(s), p, pattern("XX", "11"))
				expectErrors(t, s, c, parsed(s), pattern("0Z", "11"), p)
			}
		}
	}
}

// TestErrorsRandom has circuits, faults and patterns of random numbers, most of them not valid.
func TestErrorsRandom(t *testing.T) {
	r := random(136)
	seen := map[api.Errno]int{}
	for i := range 6000 {
		c := r.broken()
		if i%3 == 0 {
			c = r.circuit(1 + r.below(9))
		}
		f := api.Fault{Model: api.Model(r.below(5)), Line: at(r.below(len(c.Nodes)+2)-1, r.below(3)-1), Value: api.Value(r.below(3))}
		if f.Model >= api.Wired {
			f.Line.Pin, f.Other = -1, r.below(len(c.Nodes)+2)-1
		}
		pattern := func() api.Pattern {
			if r.below(2) == 0 {
				return r.pattern(c, 5)
			}
			return api.Pattern{In: r.values(r.below(4), 6), State: r.values(r.below(4), 6)}
		}
		p, q := pattern(), pattern()
		expectErrors(t, "random "+strconv.Itoa(i), c, f, p, q)
		seen[runError(c, f, p)]++
	}
	for _, e := range []api.Errno{api.OK, api.ErrArg, api.ErrKind, api.ErrWidth, api.ErrLoop} {
		if seen[e] < 20 {
			t.Errorf("%d calls with error %d", seen[e], e)
		}
	}
}

// full returns a circuit of n nodes: an input, a Tri, two Bus nodes of it, Dff nodes, and a Buf, an And and a constant at the end.
func full(n int) api.Circuit {
	nodes := []api.Node{in(api.Input), in(api.Tri, 0, 0), in(api.Bus, 1, 1), in(api.Bus, 1)}
	for len(nodes) < n-3 {
		nodes = append(nodes, in(api.Dff, len(nodes)%7))
	}
	nodes = append(nodes, in(api.Buf, 1), in(api.And, 0, 1), in(api.Zero))
	return of([]int{0, 1, 2, n - 1}, nodes...)
}

// TestCutLimit has circuits with as many nodes as there may be, a few less, and one more.
func TestCutLimit(t *testing.T) {
	for _, x := range []struct {
		fault string
		added int // the number of nodes that are appended
	}{
		{"stuck 0 0", 1}, {"stuck 0 1", 1}, {"stuck 1 0", 3}, {"stuck 1 1", 3}, {"stuck 1.0 1", 1}, {"stuck 2.0 0", 3}, {"stuck 2.1 1", 3}, {"stuck 2 0", 1}, {"stuck 3.0 1", 3}, {"stuck 9 1", 1}, {"stuck 9.0 0", 1},
		{"wired 4 9 0", 1}, {"wired 4 9 1", 1}, {"wired 0 5 1", 1}, {"strong 4 9", 0}, {"strong 9 0", 0},
	} {
		for n := api.MaxNodes - 4; n <= api.MaxNodes+1; n++ {
			c, f := full(n), parsed(x.fault)
			want := api.OK
			if n > api.MaxNodes || n+x.added > api.MaxNodes {
				want = api.ErrLimit
			}
			expectCutError(t, x.fault+" of "+strconv.Itoa(n)+" nodes", c, f, want)
			if d, e := Cut(c, f); e == api.OK && (len(d.Nodes) != n+x.added || netlists.Check(d) != api.OK) {
				t.Errorf("%s: %d nodes of %d, error %d", x.fault, len(d.Nodes), n, netlists.Check(d))
			}
		}
	}
	for n := api.MaxNodes - 2; n <= api.MaxNodes; n++ { // other errors precede the limit
		c := full(n)
		for _, s := range []string{"slow 1 0", "slow 2.0 1", "slow 0 0"} {
			expectCutError(t, s, c, parsed(s), api.ErrKind)
		}
		expectCutError(t, "no node", c, api.Fault{Line: at(n, -1)}, api.ErrArg)
		expectCutError(t, "no pin", c, parsed("stuck 1.2 0"), api.ErrArg)
		expectCutError(t, "a Tri", c, parsed("wired 1 4 0"), api.ErrKind)
		expectCutError(t, "dependent nets", c, parsed("wired 0 2 0"), api.ErrLoop)
		f := parsed("stuck " + strconv.Itoa(n-3) + ".0 0") // the last Buf
		want := api.OK
		if n == api.MaxNodes {
			want = api.ErrLimit
		}
		expectCutError(t, faults.Text(f), c, f, want)
	}
}
