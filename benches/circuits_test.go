package benches_test

import (
	"reflect"
	"slices"
	"strconv"
	"strings"

	"probecard/api"
)

// sheet is the text of the chapter's example.
const sheet = "INPUT(a)\nq = DFF(g)\nn = NOT(a)\ng = AND(q, n)\nOUTPUT(g)\n"

// example returns the circuit of sheet.
func example() api.Circuit {
	return api.Circuit{
		Nodes: []api.Node{
			{Kind: api.Input},
			{Kind: api.Dff, In: []int{3}},
			{Kind: api.Not, In: []int{0}},
			{Kind: api.And, In: []int{1, 2}},
		},
		Names: []string{"a", "q", "n", "g"},
		Outs:  []int{3},
	}
}

// plan is the text of a circuit with nodes of all kinds. Names are also words of the forms and counts.
const plan = `INPUT(INPUT)
b = BUF(INPUT)
d = DFF(OUTPUT)
0 = ZERO()
1 = ONE()
w = BUS(t, u)
INPUT(AND)
m = MEM(0, 1)
00 = MEM(1, 0)
n = NOT(b)
a = AND(n, d)
na = NAND(a, 1, INPUT)
o = OR(na, m)
no = NOR(0, o, o)
x = XOR(no, AND)
MEM = XNOR(x, 00)
MEMORY = MUX(AND, MEM, a)
t = TRI(INPUT, MEMORY)
u = TRI(AND, d)
OUTPUT = BUS(u, t, t)
"~!" = DFF("~!")
OUTPUT(OUTPUT)
OUTPUT(0)
OUTPUT(OUTPUT)
OUTPUT("~!")
MEMORY(AND, 2, INPUT, m, n, OUTPUT)
MEMORY(MEMORY, 1, 00, MEM, 00, 1)
MEMORY(0, 3, 1, 1, 0, 00)
`

// full returns the circuit of plan.
func full() api.Circuit {
	return api.Circuit{
		Nodes: []api.Node{
			0:  {Kind: api.Input},
			1:  {Kind: api.Buf, In: []int{0}},
			2:  {Kind: api.Dff, In: []int{19}},
			3:  {Kind: api.Zero},
			4:  {Kind: api.One},
			5:  {Kind: api.Bus, In: []int{17, 18}},
			6:  {Kind: api.Input},
			7:  {Kind: api.Mem, Mem: 0, Bit: 1},
			8:  {Kind: api.Mem, Mem: 1, Bit: 0},
			9:  {Kind: api.Not, In: []int{1}},
			10: {Kind: api.And, In: []int{9, 2}},
			11: {Kind: api.Nand, In: []int{10, 4, 0}},
			12: {Kind: api.Or, In: []int{11, 7}},
			13: {Kind: api.Nor, In: []int{3, 12, 12}},
			14: {Kind: api.Xor, In: []int{13, 6}},
			15: {Kind: api.Xnor, In: []int{14, 8}},
			16: {Kind: api.Mux, In: []int{6, 15, 10}},
			17: {Kind: api.Tri, In: []int{0, 16}},
			18: {Kind: api.Tri, In: []int{6, 2}},
			19: {Kind: api.Bus, In: []int{18, 17, 17}},
			20: {Kind: api.Dff, In: []int{20}},
		},
		Names: strings.Fields(`INPUT b d 0 1 w AND m 00 n a na o no x MEM MEMORY t u OUTPUT "~!"`),
		Outs:  []int{19, 3, 19, 20},
		Mems: []api.Memory{
			{Write: 6, Addr: []int{0, 7}, Data: []int{9, 19}},
			{Write: 16, Addr: []int{8}, Data: []int{15, 8, 4}},
			{Write: 3, Addr: []int{4, 4, 3}, Data: []int{8}},
		},
	}
}

// equal reports whether two circuits are equal, nil and empty slices too.
func equal(a, b api.Circuit) bool { return reflect.DeepEqual(plain(a), plain(b)) }

// plain returns a copy of c with empty slices instead of nil ones.
func plain(c api.Circuit) api.Circuit {
	d := api.Circuit{Nodes: append([]api.Node{}, c.Nodes...), Names: append([]string{}, c.Names...), Mems: append([]api.Memory{}, c.Mems...), Outs: append([]int{}, c.Outs...)}
	for i, n := range d.Nodes {
		d.Nodes[i].In = append([]int{}, n.In...)
	}
	for i, m := range d.Mems {
		d.Mems[i].Addr, d.Mems[i].Data = append([]int{}, m.Addr...), append([]int{}, m.Data...)
	}
	return d
}

// isZero reports whether c is the zero Circuit, or has empty slices.
func isZero(c api.Circuit) bool {
	return len(c.Nodes) == 0 && len(c.Names) == 0 && len(c.Mems) == 0 && len(c.Outs) == 0
}

// renumber returns c with node to[i] for each node i.
func renumber(c api.Circuit, to []int) api.Circuit {
	move := func(l []int) []int {
		out := make([]int, len(l))
		for k, net := range l {
			out[k] = to[net]
		}
		return out
	}
	d := api.Circuit{Nodes: make([]api.Node, len(c.Nodes)), Names: make([]string, len(c.Names)), Outs: move(c.Outs)}
	for i, n := range c.Nodes {
		d.Nodes[to[i]] = api.Node{Kind: n.Kind, In: move(n.In), Mem: n.Mem, Bit: n.Bit}
		d.Names[to[i]] = c.Names[i]
	}
	for _, m := range c.Mems {
		d.Mems = append(d.Mems, api.Memory{Write: to[m.Write], Addr: move(m.Addr), Data: move(m.Data)})
	}
	return d
}

// random is a linear congruential generator, so that every run has the same circuits.
type random uint64

// below returns a number from 0 to n-1.
func (r *random) below(n int) int {
	*r = *r*6364136223846793005 + 1442695040888963407
	return int((uint64(*r) >> 33) % uint64(n))
}

// numbers returns count numbers from 0 to n-1.
func (r *random) numbers(count, n int) []int {
	l := make([]int, count)
	for i := range l {
		l[i] = r.below(n)
	}
	return l
}

// permutation returns the numbers from 0 to n-1 in some order.
func (r *random) permutation(n int) []int {
	l := make([]int, n)
	for i := range l {
		k := r.below(i + 1)
		l[i], l[k] = l[k], i
	}
	return l
}

// wordBytes are the bytes of words.
const wordBytes = "!\"$%&'*+-./0123456789:;<>?@ABCDEFGHIJKLMNOPQRSTUVWXYZ[\\]^_`abcdefghijklmnopqrstuvwxyz{|}~"

// name returns a valid name: a word of the forms, a number, or some bytes.
func (r *random) name() string {
	switch r.below(6) {
	case 0:
		words := strings.Fields("INPUT OUTPUT MEMORY MEM " + strings.Join(kindWords, " "))
		return words[r.below(len(words))]
	case 1:
		return strconv.Itoa(r.below(40))
	}
	b := make([]byte, 1+r.below(1+r.below(api.MaxName)))
	for i := range b {
		b[i] = wordBytes[r.below(len(wordBytes))]
	}
	return string(b)
}

// names returns n different names.
func (r *random) names(n int) []string {
	var l []string
	for len(l) < n {
		if s := r.name(); !slices.Contains(l, s) {
			l = append(l, s)
		}
	}
	return l
}

// width returns a number of inputs that a kind allows.
func (r *random) width(kind api.Kind) int {
	switch kind {
	case api.Buf, api.Not, api.Dff:
		return 1
	case api.Tri:
		return 2
	case api.Mux:
		return 3
	case api.And, api.Nand, api.Or, api.Nor, api.Xor, api.Xnor:
		if r.below(8) == 0 {
			return api.MaxFanin
		}
		return 2 + r.below(4)
	case api.Bus:
		return 1 + r.below(4)
	}
	return 0
}

// node returns the node i of a circuit of n nodes, which reads nodes before it unless it is a Dff.
func (r *random) node(c api.Circuit, i, n int) api.Node {
	kind := api.Kind(r.below(16))
	var tris []int
	for k := range i {
		if c.Nodes[k].Kind == api.Tri {
			tris = append(tris, k)
		}
	}
	switch {
	case kind == api.Mem && len(c.Mems) > 0:
		mem := r.below(len(c.Mems))
		return api.Node{Kind: kind, Mem: mem, Bit: r.below(len(c.Mems[mem].Data))}
	case kind == api.Dff:
		return api.Node{Kind: kind, In: r.numbers(1, n)}
	case kind == api.Bus && len(tris) > 0:
		in := r.numbers(r.width(kind), len(tris))
		for k := range in {
			in[k] = tris[in[k]]
		}
		return api.Node{Kind: kind, In: in}
	case kind == api.Mem || kind == api.Bus || i == 0:
		return api.Node{Kind: api.Input}
	}
	return api.Node{Kind: kind, In: r.numbers(r.width(kind), i)}
}

// circuit returns a valid circuit of n nodes, in no particular order.
func (r *random) circuit(n int) api.Circuit {
	c := api.Circuit{Names: r.names(n)}
	for range r.below(4) {
		c.Mems = append(c.Mems, api.Memory{Write: r.below(n), Addr: r.numbers(1+r.below(api.MaxAddr), n), Data: r.numbers(1+r.below(api.MaxWord), n)})
	}
	for i := range n {
		c.Nodes = append(c.Nodes, r.node(c, i, n))
	}
	c.Outs = r.numbers(r.below(2*n), n)
	return renumber(c, r.permutation(n))
}
