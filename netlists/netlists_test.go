package netlists_test

import (
	"math"
	"slices"
	"strconv"
	"strings"
	"testing"

	"probecard/api"
	. "probecard/netlists"
)

// wrong returns values that are not an index into a slice of n elements.
func wrong(n int) []int {
	return []int{-1, n, n + 1, math.MinInt, math.MaxInt, 1 << 32}
}

// named returns the circuit with names for its nodes.
func named(c api.Circuit) api.Circuit {
	c.Names = nil
	for i := range c.Nodes {
		c.Names = append(c.Names, "n"+strconv.Itoa(i))
	}
	return c
}

// example returns the circuit of the chapter's example.
func example() api.Circuit {
	return api.Circuit{
		Nodes: []api.Node{
			{Kind: api.Input},
			{Kind: api.Dff, In: []int{3}},
			{Kind: api.Not, In: []int{0}},
			{Kind: api.And, In: []int{1, 2}},
		},
		Names: []string{"a", "q", "n", "g"},
		Outs:  []int{3},
	}
}

// full returns a valid circuit with nodes of all kinds. Loops lead through its Dff nodes and its memories; the memories 2 and 3 have no Mem nodes.
func full() api.Circuit {
	return named(api.Circuit{
		Nodes: []api.Node{
			0:  {Kind: api.Input},
			1:  {Kind: api.Buf, In: []int{0}},
			2:  {Kind: api.Dff, In: []int{20}},
			3:  {Kind: api.Zero},
			4:  {Kind: api.One},
			5:  {Kind: api.Bus, In: []int{18, 19}},
			6:  {Kind: api.Input},
			7:  {Kind: api.Mem, Mem: 0, Bit: 1},
			8:  {Kind: api.Mem, Mem: 1, Bit: 0},
			9:  {Kind: api.Not, In: []int{1}},
			10: {Kind: api.And, In: []int{9, 2}},
			11: {Kind: api.Nand, In: []int{10, 4, 0}},
			12: {Kind: api.Or, In: []int{11, 7}},
			13: {Kind: api.Nor, In: []int{3, 12, 12}},
			14: {Kind: api.Xor, In: []int{13, 6}},
			15: {Kind: api.Xnor, In: []int{14, 8}},
			16: {Kind: api.Mux, In: []int{6, 15, 10}},
			17: {Kind: api.Buf, In: []int{24}},
			18: {Kind: api.Tri, In: []int{0, 16}},
			19: {Kind: api.Tri, In: []int{6, 2}},
			20: {Kind: api.Bus, In: []int{19, 18, 18}},
			21: {Kind: api.Dff, In: []int{21}},
			22: {Kind: api.Input},
			23: {Kind: api.Or, In: []int{22, 21}},
			24: {Kind: api.And, In: []int{23, 18}},
			25: {Kind: api.Not, In: []int{5}},
		},
		Mems: []api.Memory{
			{Addr: []int{0, 7}, Data: []int{9, 20}, Write: 6},
			{Addr: []int{8}, Data: []int{15, 8, 21}, Write: 16},
			{Addr: []int{6, 6, 0}, Data: []int{3}, Write: 24},
			{Addr: []int{22}, Data: []int{22, 5}, Write: 22},
		},
		Outs: []int{20, 3, 20, 18, 25},
	})
}

// fanned returns a circuit with the Input 0, a Tri 1, and a node 2 of a kind that reads n times the net 1; it has a memory of two bits.
func fanned(kind api.Kind, n int) api.Circuit {
	return named(api.Circuit{
		Nodes: []api.Node{{Kind: api.Input}, {Kind: api.Tri, In: []int{0, 0}}, {Kind: kind, In: slices.Repeat([]int{1}, n)}},
		Mems:  []api.Memory{{Addr: []int{0}, Data: []int{0, 1}}},
	})
}

// chain returns an Input and n-1 Buf nodes, of which each reads the one before it, or behind it if step is 1 (otherwise -1).
func chain(n, step int) api.Circuit {
	c := api.Circuit{Nodes: make([]api.Node, n)}
	for i := range c.Nodes {
		if from := i + step; from >= 0 && from < n {
			c.Nodes[i] = api.Node{Kind: api.Buf, In: []int{from}}
		}
	}
	return named(c)
}

// deep returns a copy of c in memory of its own, with nil slices where c has them.
func deep(c api.Circuit) api.Circuit {
	d := api.Circuit{Nodes: slices.Clone(c.Nodes), Names: slices.Clone(c.Names), Mems: slices.Clone(c.Mems), Outs: slices.Clone(c.Outs)}
	for i, n := range d.Nodes {
		d.Nodes[i].In = slices.Clone(n.In)
	}
	for i, m := range d.Mems {
		d.Mems[i].Addr, d.Mems[i].Data = slices.Clone(m.Addr), slices.Clone(m.Data)
	}
	return d
}

// random is a linear congruential generator, so that every run has the same circuits.
type random uint64

// below returns a number from 0 to n-1.
func (r *random) below(n int) int {
	*r = *r*6364136223846793005 + 1442695040888963407
	return int((uint64(*r) >> 33) % uint64(n))
}

// permutation returns the numbers from 0 to n-1 in some order.
func (r *random) permutation(n int) []int {
	l := make([]int, n)
	for i := range l {
		k := r.below(i + 1)
		l[i], l[k] = l[k], i
	}
	return l
}

// node returns a node of any kind but Bus and Mem whose pins are nets below limit, or, in back of 100 pins and for Dff nodes, below n.
func (r *random) node(n, limit, back int) api.Node {
	kind := api.Kind(r.below(15))
	width := 0
	switch kind {
	case api.Bus:
		return api.Node{Kind: api.Input}
	case api.Buf, api.Not, api.Dff:
		width = 1
	case api.Tri:
		width = 2
	case api.Mux:
		width = 3
	case api.And, api.Nand, api.Or, api.Nor, api.Xor, api.Xnor:
		width = 2 + r.below(3)
	}
	if limit == 0 && kind != api.Dff {
		return api.Node{Kind: api.Zero}
	}
	var in []int
	for range width {
		if kind == api.Dff || r.below(100) < back {
			in = append(in, r.below(n))
		} else {
			in = append(in, r.below(limit))
		}
	}
	return api.Node{Kind: kind, In: in}
}

// circuit returns a circuit of n nodes for which the conditions 1 to 6 do not apply; the greater back is, the more often it has loops.
func (r *random) circuit(n, back int) api.Circuit {
	c := api.Circuit{Nodes: make([]api.Node, n)}
	for i := range c.Nodes {
		c.Nodes[i] = r.node(n, i, back)
	}
	tris := filter(n, func(i int) bool { return c.Nodes[i].Kind == api.Tri })
	for i := range c.Nodes {
		if c.Nodes[i].Kind == api.Input && r.below(2) == 0 && len(tris) > 0 {
			if tri := tris[r.below(len(tris))]; tri < i || r.below(100) < back {
				c.Nodes[i] = api.Node{Kind: api.Bus, In: []int{tri}}
			}
		}
	}
	for range r.below(3) {
		c.Mems = append(c.Mems, api.Memory{Addr: []int{r.below(n)}, Data: []int{r.below(n), r.below(n)}, Write: r.below(n)})
	}
	for i := range c.Nodes {
		if c.Nodes[i].Kind == api.Input && r.below(2) == 0 && len(c.Mems) > 0 {
			c.Nodes[i] = api.Node{Kind: api.Mem, Mem: r.below(len(c.Mems)), Bit: r.below(2)}
		}
	}
	for range r.below(4) {
		c.Outs = append(c.Outs, r.below(n))
	}
	return named(c)
}

// filter returns the numbers from 0 to n-1 for which f is true.
func filter(n int, f func(i int) bool) []int {
	var l []int
	for i := range n {
		if f(i) {
			l = append(l, i)
		}
	}
	return l
}

// strange returns circuits of all sorts, most of them invalid, for the functions that accept any circuit.
func strange() []api.Circuit {
	l := []api.Circuit{
		{},
		{Nodes: []api.Node{}, Names: []string{}, Mems: []api.Memory{}, Outs: []int{}},
		{Names: []string{"a", "b", "a", ""}, Outs: []int{5}},
		{Nodes: make([]api.Node, 3)},
		{Mems: make([]api.Memory, 20), Outs: []int{-1}},
		example(), full(),
		named(api.Circuit{Nodes: make([]api.Node, api.MaxNodes+2), Outs: make([]int, api.MaxNodes+2)}),
	}
	for _, f := range flaws() {
		if f.rank.condition > 1 { // the circuits above the limits are large
			c := full()
			f.change(&c)
			l = append(l, c)
		}
	}
	for seed := range random(20) {
		l = append(l, broken(&seed))
	}
	return l
}

// broken returns a circuit with random kinds, pins and fields.
func broken(r *random) api.Circuit {
	c := r.circuit(2+r.below(12), 30)
	for range r.below(6) {
		n := &c.Nodes[r.below(len(c.Nodes))]
		number := r.below(len(c.Nodes)+4) - 2
		switch r.below(9) {
		case 0:
			n.Kind = api.Kind(r.below(20))
		case 1:
			n.In = append(n.In, number)
		case 2:
			n.In = n.In[:len(n.In)/2]
		case 3:
			n.Mem = r.below(3) - 1
		case 4:
			n.Bit = r.below(3) - 1
		case 5:
			c.Names = append(c.Names[:r.below(len(c.Names)+1)], "n1")
		case 6:
			c.Outs = append(c.Outs, number)
		case 7:
			c.Mems = append(c.Mems, api.Memory{Addr: make([]int, r.below(11)), Data: make([]int, r.below(36)), Write: number})
		case 8:
			c.Names = append(c.Names[:0], named(c).Names...)
		}
	}
	return c
}

// P3.1

func TestIsNameBytes(t *testing.T) {
	const others = "()=,#"
	for n := range 256 {
		b := string([]byte{byte(n)})
		want := n >= 33 && n <= 126 && !strings.Contains(others, b)
		for _, s := range []string{b, b + "ab", "a" + b + "b", "ab" + b, strings.Repeat("a", api.MaxName-1) + b} {
			if got := IsName(s); got != want {
				t.Errorf("IsName(%q) = %t", s, got)
			}
		}
	}
}

func TestIsNameLengths(t *testing.T) {
	for n := range 3 * api.MaxName {
		for _, unit := range []string{"a", "~", "!"} {
			if got, want := IsName(strings.Repeat(unit, n)), n >= 1 && n <= 32; got != want {
				t.Errorf("IsName of %d bytes %s: %t", n, unit, got)
			}
		}
	}
	for _, s := range []string{"é", "aé", "日本", "\u00a0", "\xff", "a\x00", "\x00"} {
		if IsName(s) {
			t.Errorf("IsName(%q) = true", s)
		}
	}
	if IsName(strings.Repeat("a", 1<<16)) {
		t.Error("IsName of 65536 bytes: true")
	}
}

func TestComb(t *testing.T) {
	kinds := []api.Kind{api.Zero, api.One, api.Buf, api.Not, api.And, api.Nand, api.Or, api.Nor, api.Xor, api.Xnor, api.Mux, api.Tri, api.Bus}
	for n := range 256 {
		kind := api.Kind(n)
		if got := Comb(kind); got != slices.Contains(kinds, kind) {
			t.Errorf("Comb(%d) = %t", n, got)
		}
	}
}

// P3.3

func TestOf(t *testing.T) {
	lists := [][]api.Kind{{}, {api.Input}, {api.Tri, api.Input, api.Tri}, {api.Mem, 16, 255}, {255}, {api.Dff, api.Bus, api.Zero}}
	for kind := range api.Mem + 3 {
		lists = append(lists, []api.Kind{kind})
	}
	for i, c := range strange() {
		for _, kinds := range lists {
			want := filter(len(c.Nodes), func(n int) bool { return slices.Contains(kinds, c.Nodes[n].Kind) })
			if got := Of(c, kinds...); !slices.Equal(got, want) {
				t.Errorf("circuit %d: Of(c, %v) = %v, not %v", i, kinds, got, want)
			}
		}
	}
}

func TestOfFull(t *testing.T) {
	c := full()
	c.Nodes[10].Kind, c.Nodes[12].Kind = 255, 16
	for _, x := range []struct {
		kinds []api.Kind
		want  []int
	}{
		{nil, nil},
		{[]api.Kind{api.Tri, api.Mem}, []int{7, 8, 18, 19}},
		{[]api.Kind{api.Mem, api.Tri, api.Mem}, []int{7, 8, 18, 19}},
		{[]api.Kind{api.And}, []int{24}},
		{[]api.Kind{16, 255}, []int{10, 12}},
		{[]api.Kind{17}, nil},
	} {
		if got := Of(c, x.kinds...); !slices.Equal(got, x.want) {
			t.Errorf("Of(c, %v) = %v, not %v", x.kinds, got, x.want)
		}
	}
}

func TestInputsStates(t *testing.T) {
	c := full()
	if got := Inputs(c); !slices.Equal(got, []int{0, 6, 22}) {
		t.Errorf("Inputs = %v", got)
	}
	if got := States(c); !slices.Equal(got, []int{2, 21}) {
		t.Errorf("States = %v", got)
	}
	for i, c := range strange() {
		inputs := filter(len(c.Nodes), func(n int) bool { return c.Nodes[n].Kind == api.Input })
		if got := Inputs(c); !slices.Equal(got, inputs) {
			t.Errorf("circuit %d: Inputs = %v, not %v", i, got, inputs)
		}
		states := filter(len(c.Nodes), func(n int) bool { return c.Nodes[n].Kind == api.Dff })
		if got := States(c); !slices.Equal(got, states) {
			t.Errorf("circuit %d: States = %v, not %v", i, got, states)
		}
	}
}

func TestFind(t *testing.T) {
	// More names than nodes, equal names, and names that are not valid.
	c := api.Circuit{Nodes: make([]api.Node, 2), Names: []string{"a", "b", "a", "", "x y", "", "b", strings.Repeat("z", 40)}}
	for _, x := range []struct {
		name string
		want int
		is   bool
	}{
		{"a", 0, true}, {"b", 1, true}, {"", 3, true}, {"x y", 4, true}, {strings.Repeat("z", 40), 7, true},
		{"A", 0, false}, {"c", 0, false}, {"ab", 0, false}, {"x", 0, false}, {strings.Repeat("z", 32), 0, false},
	} {
		if got, is := Find(c, x.name); got != x.want || is != x.is {
			t.Errorf("Find(c, %q) = %d, %t", x.name, got, is)
		}
	}
	if got, is := Find(api.Circuit{Nodes: make([]api.Node, 1)}, ""); got != 0 || is {
		t.Errorf("Find without names = %d, %t", got, is)
	}
}

func TestFindAll(t *testing.T) {
	for i, c := range strange() {
		if len(c.Names) > 1000 {
			continue // a search among n names for each of them takes n*n steps
		}
		for _, name := range append([]string{"", "none"}, c.Names...) {
			want := slices.Index(c.Names, name)
			if got, is := Find(c, name); got != max(want, 0) || is != (want >= 0) {
				t.Errorf("circuit %d: Find(c, %q) = %d, %t", i, name, got, is)
			}
		}
	}
}

// P3.4

// readers returns the pins that read a net, one net at a time.
func readers(c api.Circuit, net int) []api.Line {
	var l []api.Line
	for i, n := range c.Nodes {
		for pin, from := range n.In {
			if from == net {
				l = append(l, api.Line{Node: i, Pin: pin})
			}
		}
	}
	return l
}

func TestFanoutExample(t *testing.T) {
	want := [][]api.Line{{{Node: 2, Pin: 0}}, {{Node: 3, Pin: 0}}, {{Node: 3, Pin: 1}}, {{Node: 1, Pin: 0}}}
	if got := Fanout(example()); !slices.EqualFunc(got, want, slices.Equal) {
		t.Errorf("Fanout = %v", got)
	}
}

// TestFanoutPins has a net with several pins of one node, pins of invalid indices and of an invalid kind, and nets that only ports and Outs name.
func TestFanoutPins(t *testing.T) {
	c := api.Circuit{
		Nodes: []api.Node{
			{Kind: api.And, In: []int{2, 2, 0}},
			{Kind: api.Dff, In: []int{2}},
			{Kind: api.Input, In: append(wrong(4), 2)},
			{Kind: 200, In: []int{0, 2, -1, 2}},
		},
		Mems: []api.Memory{{Addr: []int{3}, Data: []int{3, 1}, Write: 3}},
		Outs: []int{1, 3, 2},
	}
	want := [][]api.Line{
		{{Node: 0, Pin: 2}, {Node: 3, Pin: 0}},
		{},
		{{Node: 0, Pin: 0}, {Node: 0, Pin: 1}, {Node: 1, Pin: 0}, {Node: 2, Pin: 6}, {Node: 3, Pin: 1}, {Node: 3, Pin: 3}},
		{},
	}
	if got := Fanout(c); !slices.EqualFunc(got, want, slices.Equal) {
		t.Errorf("Fanout = %v", got)
	}
}

func TestFanoutAll(t *testing.T) {
	for i, c := range strange() {
		got := Fanout(c)
		if len(got) != len(c.Nodes) {
			t.Errorf("circuit %d: Fanout has %d elements", i, len(got))
			continue
		}
		if len(got) > 1000 {
			continue
		}
		for net, l := range got {
			if want := readers(c, net); !slices.Equal(l, want) {
				t.Errorf("circuit %d: Fanout of %d = %v, not %v", i, net, l, want)
			}
		}
	}
}

// TestFanoutLarge has as many readers of one net as there are nodes above the limit.
func TestFanoutLarge(t *testing.T) {
	const n = api.MaxNodes + 100
	c := api.Circuit{Nodes: make([]api.Node, n)}
	for i := range c.Nodes {
		c.Nodes[i] = api.Node{Kind: api.Xor, In: []int{n - 1, i}}
	}
	got := Fanout(c)
	if len(got) != n || len(got[n-1]) != n+1 {
		t.Fatalf("Fanout has %d elements", len(got))
	}
	for i := range n {
		if got[n-1][i] != (api.Line{Node: i}) {
			t.Fatalf("reader %d: %v", i, got[n-1][i])
		}
		if i < n-1 && !slices.Equal(got[i], []api.Line{{Node: i, Pin: 1}}) {
			t.Fatalf("Fanout of %d = %v", i, got[i])
		}
	}
}
