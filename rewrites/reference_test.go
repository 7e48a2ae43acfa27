package rewrites_test

import (
	"slices"
	"strconv"
	"testing"

	"probecard/api"
	"probecard/cones"
	"probecard/logic"
	"probecard/netlists"
	. "probecard/rewrites"
	"probecard/sims"
)

// The definitions of the chapter, word by word and without regard to time.

// valueOf returns the value of a net when the nets of all Input, Dff and Mem nodes are X.
func valueOf(c api.Circuit, net int) api.Value {
	n := c.Nodes[net]
	if n.Kind == api.Input || n.Kind == api.Dff || n.Kind == api.Mem {
		return api.VX
	}
	var l []api.Value
	for _, k := range n.In {
		l = append(l, valueOf(c, k))
	}
	return logic.Eval(n.Kind, l...)
}

// isConstant reports whether a net is constant, with the value v.
func isConstant(c api.Circuit, net int, v api.Value) bool { return valueOf(c, net) == v }

// sourceOf returns the source of a net.
func sourceOf(c api.Circuit, net int) int {
	switch n := c.Nodes[net]; n.Kind {
	case api.Buf:
		return sourceOf(c, n.In[0])
	case api.Not:
		if other := c.Nodes[sourceOf(c, n.In[0])]; other.Kind == api.Not {
			return sourceOf(c, other.In[0])
		}
	}
	return net
}

// firstLike returns a function that returns the first node that is like a node, or that node if it is neither combinational nor a Mem.
func firstLike(c api.Circuit) func(n int) int {
	order, _ := netlists.Order(c)
	known := map[int]int{}
	var first func(n int) int
	alike := func(i, k int) bool {
		a, b := c.Nodes[i], c.Nodes[k]
		if a.Kind != b.Kind || a.Mem != b.Mem || a.Bit != b.Bit || len(a.In) != len(b.In) {
			return false
		}
		var readA, readB []int
		for pin := range a.In {
			readA, readB = append(readA, first(a.In[pin])), append(readB, first(b.In[pin]))
		}
		if slices.Contains([]api.Kind{api.And, api.Nand, api.Or, api.Nor, api.Xor, api.Xnor, api.Bus}, a.Kind) {
			slices.Sort(readA)
			slices.Sort(readB)
		}
		return slices.Equal(readA, readB)
	}
	first = func(n int) int {
		if !netlists.Comb(c.Nodes[n].Kind) && c.Nodes[n].Kind != api.Mem {
			return n
		}
		if _, is := known[n]; !is {
			known[n] = order[slices.IndexFunc(order, func(i int) bool { return alike(i, n) })]
		}
		return known[n]
	}
	return first
}

// identity returns the nodes of a circuit.
func identity(c api.Circuit) []int {
	var l []int
	for i := range c.Nodes {
		l = append(l, i)
	}
	return l
}

// constantNode returns the node i after the step Constants.
func constantNode(c api.Circuit, i int) api.Node {
	n := c.Nodes[i]
	onBus := slices.ContainsFunc(c.Nodes, func(m api.Node) bool { return m.Kind == api.Bus && slices.Contains(m.In, i) })
	isOne := isConstant(c, i, api.V1)
	if netlists.Comb(n.Kind) && (isOne || isConstant(c, i, api.V0)) && !(n.Kind == api.Tri && onBus) {
		if isOne {
			return in(api.One)
		}
		return in(api.Zero)
	}
	left := in(n.Kind)
	left.Mem, left.Bit = n.Mem, n.Bit
	for _, net := range n.In {
		one, zero := isConstant(c, net, api.V1), isConstant(c, net, api.V0)
		switch {
		case (n.Kind == api.And || n.Kind == api.Nand) && one:
		case (n.Kind == api.Or || n.Kind == api.Nor) && zero:
		case (n.Kind == api.Xor || n.Kind == api.Xnor) && zero:
		case (n.Kind == api.Xor || n.Kind == api.Xnor) && one:
			left.Kind = api.Xor + api.Xnor - left.Kind
		default:
			left.In = append(left.In, net)
		}
	}
	switch {
	case n.Kind == api.Mux && isConstant(c, n.In[0], api.V0):
		return in(api.Buf, n.In[1])
	case n.Kind == api.Mux && isConstant(c, n.In[0], api.V1):
		return in(api.Buf, n.In[2])
	case n.Kind >= api.And && n.Kind <= api.Xnor && len(left.In) == 1 && logic.Inverts(left.Kind):
		left.Kind = api.Not
	case n.Kind >= api.And && n.Kind <= api.Xnor && len(left.In) == 1:
		left.Kind = api.Buf
	}
	return left
}

// constantsOf is the step Constants.
func constantsOf(c api.Circuit) Result {
	r := Result{netlists.Copy(c), identity(c)}
	for i := range c.Nodes {
		r.Circuit.Nodes[i] = constantNode(c, i)
	}
	return r
}

// replaced returns a circuit whose pins and ports name the net pin(net) for each net, and whose outputs out(net).
func replaced(c api.Circuit, pin, out func(net int) int) api.Circuit {
	each := func(l []int, to func(net int) int) []int {
		var changed []int
		for _, net := range l {
			changed = append(changed, to(net))
		}
		return changed
	}
	d := netlists.Copy(c)
	for i, n := range c.Nodes {
		d.Nodes[i].In = each(n.In, pin)
	}
	for i, m := range c.Mems {
		d.Mems[i] = api.Memory{Addr: each(m.Addr, pin), Data: each(m.Data, pin), Write: pin(m.Write)}
	}
	d.Outs = each(c.Outs, out)
	return d
}

// buffersOf is the step Buffers.
func buffersOf(c api.Circuit) Result {
	pin := func(net int) int { return sourceOf(c, net) }
	return Result{replaced(c, pin, func(net int) int {
		if kind := c.Nodes[pin(net)].Kind; netlists.Comb(kind) && kind != api.Tri && kind != api.Bus {
			return pin(net)
		}
		return net
	}), identity(c)}
}

// mergeOf is the step Merge.
func mergeOf(c api.Circuit) Result {
	first := firstLike(c)
	r := Result{Circuit: replaced(c, first, first)}
	for i := range c.Nodes {
		r.Map = append(r.Map, first(i))
	}
	return r
}

// sweepOf is the step Sweep.
func sweepOf(c api.Circuit) Result {
	cone, _ := cones.Fanin(c, cones.Points(c)...)
	var r Result
	var left api.Circuit
	for i, n := range c.Nodes {
		if netlists.Comb(n.Kind) && !slices.Contains(cone, i) {
			r.Map = append(r.Map, -1)
			continue
		}
		r.Map = append(r.Map, len(left.Nodes))
		left.Nodes, left.Names = append(left.Nodes, n), append(left.Names, c.Names[i])
	}
	left.Mems, left.Outs = c.Mems, c.Outs
	to := func(net int) int { return r.Map[net] }
	r.Circuit = replaced(left, to, to)
	return r
}

// function is a function of this layer that rewrites a circuit, and its definition.
type function struct {
	name string
	of   func(c api.Circuit) (Result, api.Errno)
	want func(c api.Circuit) Result
}

// functions returns all functions that rewrite a circuit.
func functions() []function {
	return []function{
		{"Constants", Constants, constantsOf},
		{"Buffers", Buffers, buffersOf},
		{"Merge", Merge, mergeOf},
		{"Sweep", Sweep, sweepOf},
		{"Simplify", Simplify, simplifyOf},
	}
}

// simplifyOf repeats the steps, and follows each node through all of their maps.
func simplifyOf(c api.Circuit) Result {
	var maps [][]int
	last := c
	for {
		before := last
		for _, of := range []func(c api.Circuit) Result{constantsOf, buffersOf, mergeOf, sweepOf} {
			r := of(last)
			last, maps = r.Circuit, append(maps, r.Map)
		}
		if netlists.Same(last, before) {
			break
		}
	}
	r := Result{Circuit: last}
	for i := range c.Nodes {
		for _, to := range maps {
			if i != -1 {
				i = to[i]
			}
		}
		r.Map = append(r.Map, i)
	}
	return r
}

// expect compares the results of all functions with their definitions.
func expect(t *testing.T, name string, c api.Circuit) {
	t.Helper()
	for _, f := range functions() {
		r, e := f.of(c)
		if want := f.want(c); e != api.OK || !netlists.Same(r.Circuit, want.Circuit) || !slices.Equal(r.Map, want.Map) {
			t.Errorf("%s: %s of %s: %s and %v, not %s and %v, with error %d", name, f.name, text(c), text(r.Circuit), r.Map, text(want.Circuit), want.Map, e)
		}
	}
}

// TestReference compares all functions with their definitions.
func TestReference(t *testing.T) {
	for i, c := range slices.Concat(circuits(1500, 12, 0), circuits(1500, 25, 2)) {
		expect(t, "circuit "+strconv.Itoa(i), c)
	}
}

// equalError returns the error of Equal.
func equalError(a, b api.Circuit) api.Errno {
	for _, c := range []api.Circuit{a, b} {
		if e := netlists.Check(c); e != api.OK {
			return e
		}
	}
	for _, c := range []api.Circuit{a, b} {
		if len(c.Mems) > 0 || count(c, api.Mem) > 0 {
			return api.ErrKind
		}
	}
	switch {
	case count(a, api.Input) != count(b, api.Input) || count(a, api.Dff) != count(b, api.Dff) || len(a.Outs) != len(b.Outs):
		return api.ErrWidth
	case count(a, api.Input)+count(a, api.Dff) > 12:
		return api.ErrLimit
	}
	return api.OK
}

// numbered returns the pattern with a number: the digits of the number are the inputs and the states.
func numbered(c api.Circuit, number int) api.Pattern {
	var p api.Pattern
	for i := range count(c, api.Input) {
		p.In = append(p.In, api.Value(number>>i%2))
	}
	for i := range count(c, api.Dff) {
		p.State = append(p.State, api.Value(number>>(len(p.In)+i)%2))
	}
	return p
}

// sameResponse reports whether two responses are equal.
func sameResponse(a, b api.Response) bool {
	return slices.Equal(a.Out, b.Out) && slices.Equal(a.Next, b.Next)
}

// difference returns the first pattern for which two circuits have different responses, or false.
func difference(a, b api.Circuit) (api.Pattern, bool) {
	for number := range 1 << (count(a, api.Input) + count(a, api.Dff)) {
		p := numbered(a, number)
		x, _, _ := sims.Run(a, p)
		y, _, _ := sims.Run(b, p)
		if !sameResponse(x, y) {
			return p, true
		}
	}
	return api.Pattern{}, false
}

// expectEqual compares Equal with its definition, and returns the error and whether the circuits are equal.
func expectEqual(t *testing.T, name string, a, b api.Circuit) (bool, api.Errno) {
	t.Helper()
	p, same, e := Equal(a, b)
	if want := equalError(a, b); e != want {
		t.Errorf("%s: Equal returns error %d, not %d", name, e, want)
	}
	if e != api.OK {
		if same || len(p.In)+len(p.State) > 0 {
			t.Errorf("%s: Equal returns %v and %t with error %d", name, p, same, e)
		}
		return same, e
	}
	if want, differ := difference(a, b); same == differ || !slices.Equal(p.In, want.In) || !slices.Equal(p.State, want.State) {
		t.Errorf("%s: Equal of %s and %s returns %v and %t, not %v and %t", name, text(a), text(b), p, same, want, !differ)
	}
	return same, e
}
