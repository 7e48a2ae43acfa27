package sims_test

import (
	"math"
	"slices"
	"strconv"
	"testing"

	"probecard/api"
	"probecard/logic"
	"probecard/netlists"
	. "probecard/sims"
)

// P6.1

// expectCheck checks the error of Check, and that Run returns the same error and nothing else with it.
func expectCheck(t *testing.T, name string, c api.Circuit, p api.Pattern, want api.Errno) {
	t.Helper()
	if e := Check(c, p); e != want {
		t.Errorf("%s: Check returns %d, not %d", name, e, want)
	}
	r, nets, e := Run(c, p)
	if e != want {
		t.Errorf("%s: Run returns error %d, not %d", name, e, want)
	}
	if e != api.OK && len(nets)+len(r.Out)+len(r.Next) != 0 {
		t.Errorf("%s: Run returns %v and %v with error %d", name, r, nets, e)
	}
}

// mistake is a change that makes a pattern for the circuit full, or one with an input less, invalid.
type mistake struct {
	name   string
	want   api.Errno
	change func(p *api.Pattern)
}

// mistakes returns patterns of other lengths, values above VZ, and both together.
func mistakes() []mistake {
	l := []mistake{
		{"no mistake", api.OK, func(p *api.Pattern) {}},
		{"In too short", api.ErrWidth, func(p *api.Pattern) { p.In = p.In[1:] }},
		{"In too long", api.ErrWidth, func(p *api.Pattern) { p.In = append(p.In, 0) }},
		{"no In", api.ErrWidth, func(p *api.Pattern) { p.In = nil }},
		{"State too short", api.ErrWidth, func(p *api.Pattern) { p.State = p.State[1:] }},
		{"State too long", api.ErrWidth, func(p *api.Pattern) { p.State = append(p.State, 0) }},
		{"no State", api.ErrWidth, func(p *api.Pattern) { p.State = nil }},
		{"nothing", api.ErrWidth, func(p *api.Pattern) { *p = api.Pattern{} }},
		{"an element in the other list", api.ErrWidth, func(p *api.Pattern) { p.In, p.State = p.In[1:], append(p.State, 0) }},
		{"a value, and In too long", api.ErrWidth, func(p *api.Pattern) { p.In = append(p.In, 9) }},
		{"a value, and In too short", api.ErrWidth, func(p *api.Pattern) { p.In, p.State[0] = p.In[1:], 4 }},
		{"a value, and State too long", api.ErrWidth, func(p *api.Pattern) { p.In[0], p.State = 4, append(p.State, 0) }},
		{"a value, and no State", api.ErrWidth, func(p *api.Pattern) { p.In[0], p.State = 255, nil }},
	}
	for _, v := range []api.Value{4, 5, 128, 255} {
		name := "the value " + strconv.Itoa(int(v))
		l = append(l,
			mistake{name + " first in In", api.ErrArg, func(p *api.Pattern) { p.In[0] = v }},
			mistake{name + " last in In", api.ErrArg, func(p *api.Pattern) { p.In[len(p.In)-1] = v }},
			mistake{name + " first in State", api.ErrArg, func(p *api.Pattern) { p.State[0] = v }},
			mistake{name + " last in State", api.ErrArg, func(p *api.Pattern) { p.State[len(p.State)-1] = v }},
			mistake{name + " in both", api.ErrArg, func(p *api.Pattern) { p.In[1], p.State[1] = v, v }})
	}
	return l
}

// TestCheckPattern has every mistake alone.
func TestCheckPattern(t *testing.T) {
	for _, m := range mistakes() {
		for limit := range api.VZ + 1 {
			r := random(limit)
			p := r.pattern(full(), limit+1)
			m.change(&p)
			expectCheck(t, m.name, full(), p, m.want)
		}
	}
}

// TestCheckKind has circuits with a memory, whatever the pattern.
func TestCheckKind(t *testing.T) {
	for i, c := range []api.Circuit{withMemory(), withMemNode()} {
		for _, m := range mistakes() {
			r := random(3)
			p := r.pattern(c, 4)
			m.change(&p)
			expectCheck(t, "memory "+strconv.Itoa(i)+", "+m.name, c, p, api.ErrKind)
		}
	}
	memory := of(nil, in(api.Input))
	memory.Mems = []api.Memory{{Addr: []int{0}, Data: []int{0}, Write: 0}}
	expectCheck(t, "a memory of one input", memory, pattern("0", ""), api.ErrKind)
	memory.Nodes[0].Kind = api.Mem
	expectCheck(t, "a Mem node alone", memory, api.Pattern{}, api.ErrKind)
	memory.Nodes[0].Kind = api.Input
	memory.Mems = []api.Memory{}
	expectCheck(t, "no memory", memory, pattern("0", ""), api.OK)
}

// TestCheckCircuit has circuits that are not valid, with and without memories, whatever the pattern.
func TestCheckCircuit(t *testing.T) {
	for _, f := range flaws() {
		for _, c := range flawed(f.change) {
			if e := netlists.Check(c); e != f.want {
				t.Errorf("%s: netlists.Check returns %d, not %d", f.name, e, f.want)
			}
			for _, m := range mistakes() {
				p := pattern("01Z", "XXX")
				m.change(&p)
				expectCheck(t, f.name+", "+m.name, c, p, f.want)
			}
			r := random(4)
			if p := r.pattern(c, 4); len(p.In)+len(p.State) > 0 {
				expectCheck(t, f.name, c, p, f.want)
			}
		}
	}
}

// TestCheckRandom compares Check with the chapter's conditions for small patterns.
func TestCheckRandom(t *testing.T) {
	r := random(5)
	seen := map[api.Errno]int{}
	for range 5000 {
		c := r.circuit(1 + r.below(12))
		p := r.pattern(c, 5)
		if r.below(3) == 0 {
			p = api.Pattern{In: r.values(r.below(4), 5), State: r.values(r.below(3), 5)}
		}
		want := api.OK
		switch {
		case len(p.In) != count(c, api.Input) || len(p.State) != count(c, api.Dff):
			want = api.ErrWidth
		case slices.Contains(p.In, 4) || slices.Contains(p.State, 4):
			want = api.ErrArg
		}
		seen[want]++
		expectCheck(t, "random", c, p, want)
	}
	if seen[api.OK] < 500 || seen[api.ErrWidth] < 500 || seen[api.ErrArg] < 300 {
		t.Errorf("%v", seen)
	}
}

func TestCheckEmpty(t *testing.T) {
	for _, none := range [][]api.Value{nil, {}} {
		expectCheck(t, "empty", api.Circuit{}, api.Pattern{In: none, State: none}, api.OK)
		for _, one := range [][]api.Value{{0}, {9}} {
			expectCheck(t, "empty", api.Circuit{}, api.Pattern{In: one, State: none}, api.ErrWidth)
			expectCheck(t, "empty", api.Circuit{}, api.Pattern{In: none, State: one}, api.ErrWidth)
		}
	}
}

// expectBlank checks the pattern of any circuit.
func expectBlank(t *testing.T, name string, c api.Circuit) {
	t.Helper()
	p := Blank(c)
	isOther := func(v api.Value) bool { return v != api.VX }
	if len(p.In) != count(c, api.Input) || len(p.State) != count(c, api.Dff) || slices.ContainsFunc(p.In, isOther) || slices.ContainsFunc(p.State, isOther) {
		t.Errorf("%s: Blank returns %v", name, p)
	}
}

func TestBlankValid(t *testing.T) {
	if p := Blank(full()); logic.Text(p.In...) != "XXX" || logic.Text(p.State...) != "XXX" {
		t.Errorf("full: Blank returns %v", p)
	}
	if p := Blank(withMemNode()); logic.Text(p.In...) != "XX" || logic.Text(p.State...) != "XXX" {
		t.Errorf("a Mem node: Blank returns %v", p)
	}
	for i, c := range circuits(200, 30) {
		expectBlank(t, "circuit "+strconv.Itoa(i), c)
		expectCheck(t, "circuit "+strconv.Itoa(i), c, Blank(c), api.OK)
	}
}

// TestBlankInvalid has circuits that Check refuses, of any size, whose Input and Dff nodes count as they are.
func TestBlankInvalid(t *testing.T) {
	for _, f := range flaws() {
		for _, c := range flawed(f.change) {
			expectBlank(t, f.name, c)
		}
	}
	r := random(6)
	for range 2000 {
		expectBlank(t, "broken", r.broken())
	}
	strange := api.Circuit{Nodes: []api.Node{in(api.Dff), in(api.Input, 7, -1), in(api.Dff, 1, 2), {Kind: 16}, {Kind: 255}, {Kind: api.Mem, Mem: math.MaxInt}}}
	expectBlank(t, "strange", strange)
	large := api.Circuit{Nodes: make([]api.Node, 3*api.MaxNodes)}
	for i := range large.Nodes {
		large.Nodes[i].Kind = api.Kind(i % 3 * int(api.Dff)) // no kind for each third node
	}
	expectBlank(t, "large", large)
}
