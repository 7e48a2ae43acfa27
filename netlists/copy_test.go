package netlists_test

import (
	"reflect"
	"slices"
	"testing"

	"probecard/api"
	. "probecard/netlists"
)

// equal reports whether two circuits are equal, nil and empty slices too.
func equal(a, b api.Circuit) bool {
	return reflect.DeepEqual(plain(a), plain(b))
}

// plain returns c with empty slices instead of nil ones.
func plain(c api.Circuit) api.Circuit {
	d := api.Circuit{Nodes: append([]api.Node{}, c.Nodes...), Names: append([]string{}, c.Names...), Mems: append([]api.Memory{}, c.Mems...), Outs: append([]int{}, c.Outs...)}
	for i, n := range d.Nodes {
		d.Nodes[i].In = append([]int{}, n.In...)
	}
	for i, m := range d.Mems {
		d.Mems[i].Addr, d.Mems[i].Data = append([]int{}, m.Addr...), append([]int{}, m.Data...)
	}
	return d
}

// emptied returns c with nil instead of empty slices.
func emptied(c api.Circuit) api.Circuit {
	d := plain(c)
	for i, n := range d.Nodes {
		d.Nodes[i].In = orNil(n.In)
	}
	for i, m := range d.Mems {
		d.Mems[i].Addr, d.Mems[i].Data = orNil(m.Addr), orNil(m.Data)
	}
	return api.Circuit{Nodes: orNil(d.Nodes), Names: orNil(d.Names), Mems: orNil(d.Mems), Outs: orNil(d.Outs)}
}

// orNil returns l, or nil if it is empty.
func orNil[T any](l []T) []T {
	if len(l) == 0 {
		return nil
	}
	return l
}

// scramble changes every element of every slice of c.
func scramble(c api.Circuit) {
	for i, n := range c.Nodes {
		add(n.In)
		c.Nodes[i] = api.Node{Kind: n.Kind + 1, Mem: n.Mem + 1, Bit: n.Bit + 1}
	}
	for i := range c.Names {
		c.Names[i] += "'"
	}
	for i, m := range c.Mems {
		add(m.Addr)
		add(m.Data)
		c.Mems[i] = api.Memory{Write: m.Write + 1}
	}
	add(c.Outs)
}

// add adds one to each number.
func add(l []int) {
	for i := range l {
		l[i]++
	}
}

// roomy returns a circuit equal to c whose slices have room behind their ends, filled with junk, and a function that reports whether the junk is untouched.
func roomy(c api.Circuit) (api.Circuit, func() bool) {
	var kept []func() bool
	ints := func(l []int) []int {
		out := append(slices.Clone(l), -77, -77, -77)
		kept = append(kept, func() bool { return slices.Equal(out[len(l):], []int{-77, -77, -77}) })
		return out[:len(l)]
	}
	nodes := append(slices.Clone(c.Nodes), api.Node{Kind: 99}, api.Node{Kind: 99})
	names := append(slices.Clone(c.Names), "junk", "junk")
	mems := append(slices.Clone(c.Mems), api.Memory{Write: 99}, api.Memory{Write: 99})
	for i, n := range c.Nodes {
		nodes[i].In = ints(n.In)
	}
	for i, m := range c.Mems {
		mems[i].Addr, mems[i].Data = ints(m.Addr), ints(m.Data)
	}
	d := api.Circuit{Nodes: nodes[:len(c.Nodes)], Names: names[:len(c.Names)], Mems: mems[:len(c.Mems)], Outs: ints(c.Outs)}
	junk := []func() bool{
		func() bool { return nodes[len(c.Nodes)].Kind == 99 && nodes[len(c.Nodes)+1].Kind == 99 },
		func() bool { return names[len(c.Names)] == "junk" && names[len(c.Names)+1] == "junk" },
		func() bool { return mems[len(c.Mems)].Write == 99 && mems[len(c.Mems)+1].Write == 99 },
	}
	return d, func() bool {
		return !slices.ContainsFunc(append(junk, kept...), func(f func() bool) bool { return !f() })
	}
}

// small reports whether a circuit is small enough to be copied and compared often.
func small(c api.Circuit) bool { return len(c.Nodes) < 1000 && len(c.Outs) < 1000 }

// P3.6

func TestCopyEqual(t *testing.T) {
	for i, c := range strange() {
		before := deep(c)
		d := Copy(c)
		if !equal(d, before) || !equal(c, before) {
			t.Errorf("circuit %d: Copy differs", i)
		}
		if !Same(c, d) || !Same(d, c) || !Same(c, c) || !Same(c, before) {
			t.Errorf("circuit %d: Same reports a difference", i)
		}
	}
}

// TestCopyMemory changes every element of a circuit: its copy stays as it was, and so does the circuit if the copy is changed.
func TestCopyMemory(t *testing.T) {
	for i, c := range strange() {
		before := deep(c)
		d := Copy(c)
		scramble(d)
		if !equal(c, before) {
			t.Errorf("circuit %d is changed with its copy", i)
		}
		d = Copy(c)
		scramble(c)
		if !equal(d, before) {
			t.Errorf("the copy of circuit %d is changed with it", i)
		}
	}
}

// TestCopyParts gives each slice of a copy other numbers: no slice has those of a later one.
func TestCopyParts(t *testing.T) {
	d := Copy(full())
	lists := [][]int{d.Outs}
	for _, n := range d.Nodes {
		lists = append(lists, n.In)
	}
	for _, m := range d.Mems {
		lists = append(lists, m.Addr, m.Data)
	}
	for i, l := range lists {
		for k := range l {
			l[k] = i
		}
	}
	for i, l := range lists {
		if slices.ContainsFunc(l, func(n int) bool { return n != i }) {
			t.Errorf("slice %d shares memory with another one: %v", i, l)
		}
	}
}

// changes returns changes of the circuit full, each of which makes it another one.
func changes() []func(c *api.Circuit) {
	l := []func(c *api.Circuit){
		func(c *api.Circuit) { c.Nodes = c.Nodes[:len(c.Nodes)-1] },
		func(c *api.Circuit) { c.Nodes = append(c.Nodes, api.Node{}) },
		func(c *api.Circuit) { c.Nodes = nil },
		func(c *api.Circuit) { c.Nodes[0], c.Nodes[1] = c.Nodes[1], c.Nodes[0] },
		func(c *api.Circuit) { c.Names = c.Names[:len(c.Names)-1] },
		func(c *api.Circuit) { c.Names = append(c.Names, "") },
		func(c *api.Circuit) { c.Names[3], c.Names[4] = c.Names[4], c.Names[3] },
		func(c *api.Circuit) { c.Mems = c.Mems[:len(c.Mems)-1] },
		func(c *api.Circuit) { c.Mems = append(c.Mems, api.Memory{}) },
		func(c *api.Circuit) { c.Mems[0], c.Mems[1] = c.Mems[1], c.Mems[0] },
		func(c *api.Circuit) { c.Outs = c.Outs[:len(c.Outs)-1] },
		func(c *api.Circuit) { c.Outs = append(c.Outs, 25) },
		func(c *api.Circuit) { c.Outs[0], c.Outs[1] = c.Outs[1], c.Outs[0] },
		func(c *api.Circuit) { c.Outs = nil },
	}
	for i := range full().Nodes {
		l = append(l,
			func(c *api.Circuit) { c.Nodes[i].Kind += 16 },
			func(c *api.Circuit) { c.Nodes[i].In = append(c.Nodes[i].In, 0) },
			func(c *api.Circuit) { c.Nodes[i].Mem++ },
			func(c *api.Circuit) { c.Nodes[i].Bit-- },
			func(c *api.Circuit) { c.Names[i] += "x" },
		)
		for pin := range full().Nodes[i].In {
			l = append(l, func(c *api.Circuit) { c.Nodes[i].In[pin]++ })
		}
	}
	for i := range full().Outs {
		l = append(l, func(c *api.Circuit) { c.Outs[i]-- })
	}
	for i, m := range full().Mems {
		l = append(l,
			func(c *api.Circuit) { c.Mems[i].Write++ },
			func(c *api.Circuit) { c.Mems[i].Addr = c.Mems[i].Addr[1:] },
			func(c *api.Circuit) { c.Mems[i].Data = append(c.Mems[i].Data, 0) },
			func(c *api.Circuit) { // the same nets in the same order, but one port moved from Data to Addr
				m := &c.Mems[i]
				m.Addr, m.Data = append(m.Addr, m.Data[0]), m.Data[1:]
			},
		)
		for k := range m.Addr {
			l = append(l, func(c *api.Circuit) { c.Mems[i].Addr[k]++ })
		}
		for k := range m.Data {
			l = append(l, func(c *api.Circuit) { c.Mems[i].Data[k]-- })
		}
	}
	return l
}

// TestSameChanged compares the circuit with each of its changes, and each two changes with each other.
func TestSameChanged(t *testing.T) {
	circuits := []api.Circuit{full()}
	for _, change := range changes() {
		c := full()
		change(&c)
		circuits = append(circuits, c)
	}
	for i, c := range circuits {
		for k, d := range circuits {
			if got, want := Same(c, d), equal(c, d); got != want {
				t.Errorf("circuits %d and %d: Same = %t", i, k, got)
			}
		}
		if i > 0 && Same(circuits[0], c) {
			t.Errorf("change %d: Same = true", i-1)
		}
	}
}

func TestSameStrange(t *testing.T) {
	all := strange()
	for i, c := range all {
		for k, d := range all {
			if got, want := Same(c, d), equal(c, d); got != want {
				t.Errorf("circuits %d and %d: Same = %t", i, k, got)
			}
		}
	}
}

func TestSameNil(t *testing.T) {
	for i, c := range append(strange(), api.Circuit{Nodes: make([]api.Node, 2), Mems: make([]api.Memory, 2)}) {
		a, b := plain(c), emptied(c)
		if !Same(a, b) || !Same(b, a) || !Same(Copy(a), b) || !Same(a, Copy(b)) {
			t.Errorf("circuit %d: nil and empty slices are not the same", i)
		}
	}
}

// The rules R1, R3 and R4.

// results holds what the functions return for a circuit.
type results struct {
	Errors  []api.Errno
	Lists   [][]int
	Fanout  [][]api.Line
	Found   [2]int
	Copy    api.Circuit
	Answers []bool
}

// call calls all functions that take a circuit.
func call(c api.Circuit) results {
	levels, e := Levels(c)
	order, f := Order(c)
	first, is := Find(c, "n7")
	none, isNone := Find(c, "")
	return results{
		Errors:  []api.Errno{Check(c), e, f},
		Lists:   [][]int{levels, order, Inputs(c), States(c), Of(c), Of(c, api.Tri, api.Mem, api.Input, api.Buf)},
		Fanout:  Fanout(c),
		Found:   [2]int{first, none},
		Copy:    Copy(c),
		Answers: []bool{is, isNone, Same(c, c)},
	}
}

// fits reports whether the capacity of l is its length.
func fits[T any](l []T) bool { return len(l) == cap(l) }

// fit reports whether the capacities of all slices of r are their lengths.
func (r results) fit() bool {
	ok := fits(r.Fanout) && fits(r.Copy.Nodes) && fits(r.Copy.Names) && fits(r.Copy.Mems) && fits(r.Copy.Outs)
	for _, l := range r.Lists {
		ok = ok && fits(l)
	}
	for _, l := range r.Fanout {
		ok = ok && fits(l)
	}
	for _, n := range r.Copy.Nodes {
		ok = ok && fits(n.In)
	}
	for _, m := range r.Copy.Mems {
		ok = ok && fits(m.Addr) && fits(m.Data)
	}
	return ok
}

// spoil changes every element of every slice of r.
func (r results) spoil() {
	for _, l := range r.Lists {
		add(l)
	}
	for i, l := range r.Fanout {
		for k := range l {
			l[k].Node += 1000
		}
		r.Fanout[i] = nil
	}
	scramble(r.Copy)
}

func TestArgumentsUnchanged(t *testing.T) {
	for i, c := range strange() {
		if !small(c) {
			continue
		}
		d, intact := roomy(c)
		before := deep(d)
		call(d).spoil()
		if !equal(d, before) || !intact() {
			t.Errorf("circuit %d is changed", i)
		}
	}
	kinds := []api.Kind{api.Xor, api.Input, api.Xor, api.Dff, 200}
	Of(full(), kinds[:4]...)
	if !slices.Equal(kinds, []api.Kind{api.Xor, api.Input, api.Xor, api.Dff, 200}) {
		t.Errorf("kinds are changed to %v", kinds)
	}
}

// TestArgumentsNotKept changes a circuit after the calls: their results stay as they were.
func TestArgumentsNotKept(t *testing.T) {
	for i, c := range strange() {
		if !small(c) {
			continue
		}
		want := call(deep(c))
		d := deep(c)
		got := call(d)
		scramble(d)
		if !reflect.DeepEqual(got, want) {
			t.Errorf("circuit %d: the results are changed with it", i)
		}
	}
}

func TestResultsNew(t *testing.T) {
	for i, c := range strange() {
		if !small(c) {
			continue
		}
		want := call(c)
		call(c).spoil()
		if got := call(c); !reflect.DeepEqual(got, want) {
			t.Errorf("circuit %d: the results depend on earlier ones", i)
		}
		if !want.fit() {
			t.Errorf("circuit %d: a result has room behind its end", i)
		}
	}
}

// TestFanoutParts changes the pins of one net at a time: those of the others stay as they were.
func TestFanoutParts(t *testing.T) {
	got := Fanout(full())
	for i := range got {
		for k := range got[i] {
			got[i][k].Node = -1
		}
		got[i] = append(got[i], api.Line{Node: -1})
		for net := i + 1; net < len(got); net++ {
			if want := readers(full(), net); !slices.Equal(got[net], want) {
				t.Errorf("Fanout of %d is changed with that of %d", net, i)
			}
		}
	}
}

// TestNilArguments compares circuits with nil slices and with empty ones.
func TestNilArguments(t *testing.T) {
	normal := func(r results) results { // a result may be nil or empty
		r.Copy = plain(r.Copy)
		for i, l := range r.Lists {
			r.Lists[i] = orNil(l)
		}
		for i, l := range r.Fanout {
			r.Fanout[i] = orNil(l)
		}
		r.Fanout = orNil(r.Fanout)
		return r
	}
	for i, c := range strange() {
		if !small(c) {
			continue
		}
		if a, b := normal(call(plain(c))), normal(call(emptied(c))); !reflect.DeepEqual(a, b) {
			t.Errorf("circuit %d: other results for nil slices", i)
		}
	}
	if len(Of(full(), nil...)) != 0 || len(Of(full(), []api.Kind{}...)) != 0 {
		t.Error("Of without kinds is not empty")
	}
}
