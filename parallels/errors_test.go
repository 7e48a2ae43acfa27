package parallels_test

import (
	"math"
	"slices"
	"strconv"
	"strings"
	"testing"

	"probecard/api"
	"probecard/faults"
	. "probecard/parallels"
)

// The errors of all functions.

// expectTableError expects an error of Table, also by the chapter's words, and nothing else with it.
func expectTableError(t *testing.T, name string, c api.Circuit, l []api.Fault, tests []api.Pattern, want api.Errno) {
	t.Helper()
	if e := errorOf(c, l, tests); e != want {
		t.Errorf("%s: the chapter asks for %d, not %d", name, e, want)
	}
	if got, e := Table(c, l, tests); e != want || e != api.OK && len(got) > 0 {
		t.Errorf("%s: Table returns %d rows with error %d, not %d", name, len(got), e, want)
	}
}

// expectFaultsError does the same for Faults.
func expectFaultsError(t *testing.T, name string, c api.Circuit, l []api.Fault, p api.Pattern, want api.Errno) {
	t.Helper()
	if e := errorOf(c, l, []api.Pattern{p}); e != want {
		t.Errorf("%s: the chapter asks for %d, not %d", name, e, want)
	}
	if got, e := Faults(c, l, p); e != want || e != api.OK && len(got) > 0 {
		t.Errorf("%s: Faults returns %d elements with error %d, not %d", name, len(got), e, want)
	}
}

// expectPatternsError does the same for Patterns.
func expectPatternsError(t *testing.T, name string, c api.Circuit, f api.Fault, tests []api.Pattern, want api.Errno) {
	t.Helper()
	if e := errorOf(c, []api.Fault{f}, tests); e != want {
		t.Errorf("%s: the chapter asks for %d, not %d", name, e, want)
	}
	if got, e := Patterns(c, f, tests); e != want || e != api.OK && len(got) > 0 {
		t.Errorf("%s: Patterns returns %d elements with error %d, not %d", name, len(got), e, want)
	}
}

// expectErrors expects the errors of all functions that the chapter's words ask for, with each of the patterns and some of the faults alone.
func expectErrors(t *testing.T, name string, c api.Circuit, l []api.Fault, tests []api.Pattern) {
	t.Helper()
	expectTableError(t, name, c, l, tests, errorOf(c, l, tests))
	for i, p := range tests {
		if i < 8 {
			expectFaultsError(t, name, c, l, p, errorOf(c, l, []api.Pattern{p}))
		}
	}
	for i, f := range l {
		if i < 8 {
			expectPatternsError(t, name, c, f, tests, errorOf(c, []api.Fault{f}, tests))
		}
	}
}

// call is the arguments of all functions: Table has the two lists, Faults the list of faults and the pattern, Patterns the fault and the list of patterns.
type call struct {
	c     api.Circuit
	l     []api.Fault
	f     api.Fault
	tests []api.Pattern
	p     api.Pattern
}

// mistake is a change of arguments after which some functions return an error.
type mistake struct {
	name   string
	in     string // the functions: T, F and P
	rank   int    // the place of the error among those of a function
	e      api.Errno
	change func(x *call)
}

// fine returns arguments without errors.
func fine() call {
	return call{
		read("INPUT(a); INPUT(b); q = DFF(n); INPUT(c); n = NOT(a); g = AND(b, n); e = TRI(a, b); OUTPUT(g)"),
		list("0 0, 4.0 1, wired 0 1 0, 5.1 1, strong 3 0, 2 1"),
		parsed("5.0 1"),
		patterns("010 1, 11X 0, ZX0 Z, 000 0"),
		patternOf("1X1 0"),
	}
}

// circuitMistakes returns changes of the circuit, each of which leaves the others' effects.
func circuitMistakes() []mistake {
	return []mistake{
		{"too many outputs", "TFP", 2, api.ErrLimit, func(x *call) { x.c.Outs = make([]int, api.MaxNodes+1) }},
		{"a name too many", "TFP", 3, api.ErrWidth, func(x *call) { x.c.Names = append(x.c.Names, "more") }},
		{"a Not of no pins", "TFP", 4, api.ErrWidth, func(x *call) { x.c.Nodes[4].In = nil }},
		{"an invalid name", "TFP", 5, api.ErrName, func(x *call) { x.c.Names[0] = "" }},
		{"a memory without address", "TFP", 6, api.ErrWidth, func(x *call) { x.c.Mems = append(x.c.Mems, api.Memory{Data: []int{0}}) }},
		{"an output behind the nodes", "TFP", 7, api.ErrArg, func(x *call) {
			if len(x.c.Outs) < 10 {
				x.c.Outs = append(x.c.Outs, 99)
			}
		}},
		{"a loop", "TFP", 8, api.ErrLoop, func(x *call) { x.c.Nodes[5].In = []int{5, 5} }},
		{"a memory", "TFP", 9, api.ErrKind, func(x *call) { x.c.Mems = append(x.c.Mems, api.Memory{Addr: []int{0}, Data: []int{0}}) }},
	}
}

// faultMistakes returns invalid faults and slow lines in different places of the list, and as the only one.
func faultMistakes() []mistake {
	at := func(name string, i int, e api.Errno, f api.Fault) mistake {
		return mistake{name, "TF", 10 + i, e, func(x *call) { x.l[i] = f }}
	}
	alone := func(name string, e api.Errno, f api.Fault) mistake {
		return mistake{name, "P", 10, e, func(x *call) { x.f = f }}
	}
	return []mistake{
		at("a loop first", 0, api.ErrLoop, parsed("wired 0 4 1")),
		at("a slow line first", 0, api.ErrKind, parsed("slow 0 1")),
		at("no node", 1, api.ErrArg, parsed("7 0")),
		at("an invalid slow line", 1, api.ErrArg, parsed("slow 4.1 0")),
		at("a slow line", 2, api.ErrKind, parsed("slow 5.1 0")),
		at("no pin", 2, api.ErrArg, parsed("5.2 0")),
		at("a Tri as the other net", 3, api.ErrKind, parsed("strong 2 6")),
		at("no value", 3, api.ErrArg, api.Fault{Line: api.Line{Pin: -1}, Value: api.VX}),
		at("dependent nets", 4, api.ErrLoop, parsed("strong 5 1")),
		at("a bridge in descending order last", 5, api.ErrArg, parsed("wired 1 0 0")),
		at("a slow line last", 5, api.ErrKind, parsed("slow 2 0")),
		alone("no model", api.ErrArg, api.Fault{Model: 4}),
		alone("a slow line", api.ErrKind, parsed("slow 5 0")),
		alone("an invalid slow line", api.ErrArg, parsed("slow 7 0")),
		alone("dependent nets", api.ErrLoop, parsed("wired 1 5 1")),
		alone("a Tri", api.ErrKind, parsed("wired 0 6 1")),
	}
}

// testMistakes returns invalid patterns in different places of the list, and as the only one.
func testMistakes() []mistake {
	at := func(name string, i int, e api.Errno, p api.Pattern) mistake {
		return mistake{name, "TP", 20 + i, e, func(x *call) { x.tests[i] = p }}
	}
	alone := func(name string, e api.Errno, p api.Pattern) mistake {
		return mistake{name, "F", 20, e, func(x *call) { x.p = p }}
	}
	return []mistake{
		at("In too short first", 0, api.ErrWidth, patternOf("01 0")),
		at("a value above VZ first", 0, api.ErrArg, api.Pattern{In: []api.Value{0, 4, 0}, State: []api.Value{1}}),
		at("State too long", 1, api.ErrWidth, patternOf("01X 00")),
		at("a value, and no State", 2, api.ErrWidth, api.Pattern{In: []api.Value{0, 0, 255}}),
		at("a state above VZ", 2, api.ErrArg, api.Pattern{In: []api.Value{0, 0, 2}, State: []api.Value{9}}),
		at("nothing last", 3, api.ErrWidth, api.Pattern{}),
		at("a value above VZ last", 3, api.ErrArg, api.Pattern{In: []api.Value{0, 0, 77}, State: []api.Value{1}}),
		alone("nothing", api.ErrWidth, api.Pattern{}),
		alone("In too long", api.ErrWidth, patternOf("0101 1")),
		alone("a value above VZ", api.ErrArg, api.Pattern{In: []api.Value{4, 0, 0}, State: []api.Value{1}}),
	}
}

// limitMistakes returns lists that are too long.
func limitMistakes() []mistake {
	return []mistake{
		{"too many faults", "TF", 1, api.ErrLimit, func(x *call) { x.l = append(x.l, make([]api.Fault, api.MaxFaults)...) }},
		{"too many patterns", "TP", 1, api.ErrLimit, func(x *call) { x.tests = append(x.tests, make([]api.Pattern, api.MaxTests)...) }},
	}
}

// firstOf returns the error of the lowest rank of a function among some mistakes, and of the last one made if several change the same.
func firstOf(function string, l []mistake) api.Errno {
	rank, first := math.MaxInt, api.OK
	for _, m := range l {
		if strings.Contains(m.in, function) && m.rank <= rank {
			rank, first = m.rank, m.e
		}
	}
	return first
}

// expectMistakes makes mistakes one after the other, and expects the errors of the lowest rank.
func expectMistakes(t *testing.T, l ...mistake) {
	t.Helper()
	x := fine()
	name := "mistakes"
	for _, m := range l {
		m.change(&x)
		name += ", " + m.name
	}
	expectTableError(t, name, x.c, x.l, x.tests, firstOf("T", l))
	expectFaultsError(t, name, x.c, x.l, x.p, firstOf("F", l))
	expectPatternsError(t, name, x.c, x.f, x.tests, firstOf("P", l))
}

// TestErrors makes each mistake alone, every two of them in both orders, and every two of them before some third ones.
func TestErrors(t *testing.T) {
	l := slices.Concat(circuitMistakes(), faultMistakes(), testMistakes(), limitMistakes())
	expectMistakes(t)
	for _, a := range l {
		expectMistakes(t, a)
		for _, b := range l {
			expectMistakes(t, a, b)
			for i, c := range l {
				if i%5 == 1 {
					expectMistakes(t, a, b, c)
				}
			}
		}
	}
}

// TestErrorsCircuits has circuits that faults.Lines refuses, with lists of all sorts.
func TestErrorsCircuits(t *testing.T) {
	tests := [][]api.Pattern{nil, patterns("01X ZZ1"), patterns("01 0, 01X ZZ1"), {{}}, {{In: []api.Value{9, 9, 9}, State: []api.Value{0, 0, 0}}}}
	for i, l := range [][]api.Fault{nil, list("1 0"), list("99 0, 0 0"), list("wired 1 3 0, slow 9.3 1, strong 3 1"), {{Model: 9}}} {
		try := func(name string, c api.Circuit, want api.Errno) {
			t.Helper()
			for k, some := range tests {
				expectTableError(t, name, c, l, some, want)
				expectFaultsError(t, name, c, l, slices.Concat(some, tests[1])[0], want)
				expectPatternsError(t, name, c, slices.Concat(l, list("1 0"))[0], tests[(i+k)%len(tests)], want)
			}
		}
		for _, x := range flaws() {
			for _, c := range flawed(x.change) {
				try(x.name, c, x.want)
			}
		}
		try("with a memory", withMemory(), api.ErrKind)
		try("with a Mem node", withMemNode(), api.ErrKind)
		for _, some := range tests {
			expectErrors(t, "without nodes", api.Circuit{}, l, some)
			expectErrors(t, "plain", plain(), l, some)
		}
	}
	expectTableError(t, "without nodes", api.Circuit{}, list("0 0"), nil, api.ErrArg)
	expectFaultsError(t, "without nodes", api.Circuit{}, nil, patternOf("1"), api.ErrWidth)
	expectFaultsError(t, "without nodes", api.Circuit{}, nil, api.Pattern{}, api.OK)
	expectPatternsError(t, "without nodes", api.Circuit{}, parsed("0 0"), nil, api.ErrArg)
}

// TestErrorsLimit has lists of as many faults and patterns as there may be and more, with circuits that are valid or not.
func TestErrorsLimit(t *testing.T) {
	for n := api.MaxFaults - 1; n <= api.MaxFaults+2; n++ {
		want, last := api.OK, api.ErrArg
		if n > api.MaxFaults {
			want, last = api.ErrLimit, api.ErrLimit
		}
		name := strconv.Itoa(n) + " faults"
		l := slices.Repeat(list("0 1"), n)
		expectFaultsError(t, name, example(), l, patternOf("01"), want)
		expectTableError(t, name, example(), l, nil, want)
		l[n-1].Value = 2
		expectFaultsError(t, name+", the last one invalid", example(), l, patternOf("01"), last)
		expectTableError(t, name+", the last one invalid", example(), l, patterns("01"), last)
		for _, c := range []api.Circuit{{}, withMemory(), {Outs: []int{-1}}, {Names: []string{"a"}}} {
			e := errorOf(c, l[:1:1], []api.Pattern{{In: []api.Value{9}}})
			if n > api.MaxFaults {
				e = api.ErrLimit
			}
			expectFaultsError(t, name, c, l, api.Pattern{In: []api.Value{9}}, e)
			expectTableError(t, name, c, l, []api.Pattern{{In: []api.Value{9}}}, e)
		}
	}
	for n := api.MaxTests - 1; n <= api.MaxTests+2; n++ {
		want, last := api.OK, api.ErrWidth
		if n > api.MaxTests {
			want, last = api.ErrLimit, api.ErrLimit
		}
		name := strconv.Itoa(n) + " patterns"
		tests := slices.Repeat(patterns("01"), n)
		expectPatternsError(t, name, example(), parsed("0 1"), tests, want)
		expectTableError(t, name, example(), list("0 1, 0 1"), tests, want)
		tests[n-1] = api.Pattern{}
		expectPatternsError(t, name+", the last one invalid", example(), parsed("0 1"), tests, last)
		expectTableError(t, name+", the last one invalid", example(), list("0 1"), tests, last)
		for _, c := range []api.Circuit{{}, withMemory(), {Outs: []int{-1}}, {Names: []string{"a"}}} {
			e := errorOf(c, list("9 0"), nil)
			if n > api.MaxTests {
				e = api.ErrLimit
			}
			expectPatternsError(t, name, c, parsed("9 0"), tests, e)
			expectTableError(t, name, c, list("9 0"), tests, e)
		}
	}
}

// TestErrorsFaults has faults with all fields in and around their ranges, alone and between valid ones.
func TestErrorsFaults(t *testing.T) {
	numbers := []int{math.MinInt, -1 << 32, -2, -1, 0, 1, 2, 3, 4, 5, 6, 7, 1 << 32, math.MaxInt}
	c := read("INPUT(e); INPUT(d); t = TRI(e, d); s = BUS(t); q = DFF(s); g = AND(e, d)")
	valid := list("0 0, 4.0 1, strong 0 1")
	seen := map[api.Errno]int{}
	for _, m := range []api.Model{api.Stuck, api.Slow, api.Wired, api.Strong, 4, 255} {
		for _, node := range numbers {
			for _, pin := range []int{math.MinInt, -2, -1, 0, 1, 2, math.MaxInt} {
				for _, other := range numbers {
					for _, v := range []api.Value{0, 1, 2, 3, 255} {
						f := api.Fault{Model: m, Line: at(node, pin), Value: v, Other: other}
						want := faults.Check(c, f)
						if want == api.OK && m == api.Slow {
							want = api.ErrKind
						}
						expectTableError(t, "a fault", c, []api.Fault{f}, nil, want)
						expectFaultsError(t, "a fault", c, []api.Fault{valid[0], valid[1], f, valid[2]}, patternOf("01 1"), want)
						expectPatternsError(t, "a fault", c, f, patterns("0X 1"), want)
						seen[want]++
					}
				}
			}
		}
	}
	for _, e := range []api.Errno{api.OK, api.ErrArg, api.ErrKind, api.ErrLoop} {
		if seen[e] < 5 {
			t.Errorf("%d faults with error %d", seen[e], e)
		}
	}
}

// TestErrorsBridges has all pairs of nets of circuits, many at once: each is refused exactly if faults.Check refuses it.
func TestErrorsBridges(t *testing.T) {
	r := random(162)
	seen := map[api.Errno]int{}
	for _, c := range circuits(60, 30) {
		var valid []api.Fault
		for a := range c.Nodes {
			for b := range c.Nodes {
				for _, f := range []api.Fault{
					{Model: api.Wired, Line: at(a, -1), Other: b, Value: api.Value(r.below(2))},
					{Model: api.Strong, Line: at(a, -1), Other: b},
				} {
					want := faults.Check(c, f)
					seen[want]++
					if want == api.OK {
						valid = append(valid, f)
					} else if len(valid) < 200 {
						l := append(slices.Clone(valid), f)
						expectTableError(t, "bridges", c, append(l, valid...), nil, want)
					}
				}
			}
		}
		expectTableError(t, "valid bridges", c, valid, nil, api.OK)
	}
	for _, e := range []api.Errno{api.OK, api.ErrArg, api.ErrKind, api.ErrLoop} {
		if seen[e] < 500 {
			t.Errorf("%d bridges with error %d", seen[e], e)
		}
	}
}

// TestErrorsFirst has all orders of invalid faults with different errors, of slow lines and valid faults, and then of patterns: the first one determines the error.
func TestErrorsFirst(t *testing.T) {
	c := read("INPUT(e); INPUT(d); t = TRI(e, d); s = BUS(t); q = DFF(s); g = AND(e, d)")
	l := list("wired 0 2 0, wired 0 5 0, 9 0, slow 5.1 0, slow 5.2 0, 0 1, strong 1 4, 4.0 0, wired 0 1 1")
	faultErrors := []api.Errno{api.ErrKind, api.ErrLoop, api.ErrArg, api.ErrKind, api.ErrArg, api.OK, api.OK, api.OK, api.OK}
	tests := append(patterns("01 0, 0 00, XZ X, 11 1"), api.Pattern{In: []api.Value{4, 0}, State: []api.Value{0}}, api.Pattern{})
	testErrors := []api.Errno{api.OK, api.ErrWidth, api.OK, api.OK, api.ErrArg, api.ErrWidth}
	r := random(163)
	pick := func(errors []api.Errno) ([]int, api.Errno) {
		order := r.permutation(len(errors))[:1+r.below(4)]
		for _, i := range order {
			if errors[i] != api.OK {
				return order, errors[i]
			}
		}
		return order, api.OK
	}
	seen := map[api.Errno]int{}
	for range 3000 {
		order, fault := pick(faultErrors)
		var some []api.Fault
		for _, i := range order {
			some = append(some, l[i])
		}
		order, test := pick(testErrors)
		var others []api.Pattern
		for _, i := range order {
			others = append(others, tests[i])
		}
		want := fault
		if fault == api.OK {
			want = test
		}
		expectTableError(t, "lists", c, some, others, want)
		expectErrors(t, "lists", c, some, others)
		seen[want]++
	}
	for _, e := range []api.Errno{api.OK, api.ErrArg, api.ErrKind, api.ErrLoop, api.ErrWidth} {
		if seen[e] < 30 {
			t.Errorf("%d lists with error %d", seen[e], e)
		}
	}
}

// TestErrorsPlaces has an invalid pattern, and an invalid fault, at each place of long lists.
func TestErrorsPlaces(t *testing.T) {
	for i := range 130 {
		l, tests := slices.Repeat(list("0 1, wired 0 1 0"), 65), slices.Repeat(patterns("01, X1"), 65)
		tests[i] = patternOf("011")
		expectTableError(t, "a pattern", example(), l, tests, api.ErrWidth)
		expectPatternsError(t, "a pattern", example(), l[0], tests, api.ErrWidth)
		l[i] = parsed("slow 0 1")
		expectTableError(t, "a fault", example(), l, tests, api.ErrKind)
		expectFaultsError(t, "a fault", example(), l, tests[(i+1)%130], api.ErrKind)
		l[i] = parsed("wired 0 2 0")
		expectTableError(t, "a fault", example(), l, tests, api.ErrLoop)
		expectFaultsError(t, "a fault", example(), l, tests[(i+1)%130], api.ErrLoop)
	}
}

// TestErrorsPatterns has patterns of all lengths around the right ones, with values of a byte.
func TestErrorsPatterns(t *testing.T) {
	c := read("INPUT(a); q = DFF(a); INPUT(b); r = DFF(q); OUTPUT(b)")
	l := list("0 1, 3.0 0, wired 0 2 0, strong 1 3")
	for ins := range 5 {
		for states := range 5 {
			p := api.Pattern{In: make([]api.Value, ins), State: make([]api.Value, states)}
			expectErrors(t, "lengths", c, l, []api.Pattern{patternOf("00 11"), p})
			expectErrors(t, "lengths", c, nil, []api.Pattern{p, patternOf("00 11")})
		}
	}
	for v := range 256 {
		for place := range 4 {
			x := []api.Value{0, 1, 2, 3}
			x[place] = api.Value(v)
			expectErrors(t, "values", c, l, []api.Pattern{patternOf("0X Z1"), {In: x[:2], State: x[2:]}})
			expectErrors(t, "values", c, nil, []api.Pattern{{In: x[:2], State: x[2:]}, patternOf("0X Z1")})
		}
	}
}

// TestErrorsRandom has circuits and lists of random numbers, most of them not valid.
func TestErrorsRandom(t *testing.T) {
	r := random(164)
	seen := map[api.Errno]int{}
	for i := range 8000 {
		c := r.broken()
		if i%3 > 0 {
			c = r.circuit(1 + r.below(9))
		}
		var l []api.Fault
		for range r.below(4) {
			f := api.Fault{Model: api.Model(2 * r.below(2)), Line: at(r.below(len(c.Nodes)+1), r.below(3)-1), Value: api.Value(r.below(9) % 3)}
			if r.below(3) == 0 {
				f.Model = api.Model(r.below(5))
			}
			if f.Model >= api.Wired {
				f.Line.Pin, f.Other = -1, r.below(len(c.Nodes)+2)-1
			}
			l = append(l, f)
		}
		tests := r.patterns(r.below(4), c, 4)
		if len(tests) > 0 && r.below(3) == 0 {
			tests[r.below(len(tests))] = api.Pattern{In: r.values(r.below(4), 6), State: r.values(r.below(4), 6)}
		}
		expectErrors(t, "random "+strconv.Itoa(i), c, l, tests)
		seen[errorOf(c, l, tests)]++
	}
	for _, e := range []api.Errno{api.OK, api.ErrArg, api.ErrKind, api.ErrWidth, api.ErrLoop} {
		if seen[e] < 20 {
			t.Errorf("%d calls with error %d", seen[e], e)
		}
	}
}
