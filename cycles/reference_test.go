package cycles_test

import (
	"slices"
	"strconv"
	"testing"

	"probecard/api"
	. "probecard/cycles"
	"probecard/logic"
	"probecard/memories"
	"probecard/netlists"
	"probecard/sims"
)

// The definitions of the chapter, word by word and without regard to time.

// runError returns the error of Run.
func runError(c api.Circuit, s memories.State, in [][]api.Value) api.Errno {
	if len(in) > 1024 {
		return api.ErrLimit
	}
	for _, values := range slices.Concat([][]api.Value{sims.Blank(c).In}, in) {
		if e := memories.Check(c, s, values); e != api.OK {
			return e
		}
	}
	return api.OK
}

// cycle is what a circuit does in a cycle.
type cycle struct {
	nets     []api.Value
	response api.Response
	next     memories.State
}

// cyclesOf returns what a circuit does in each cycle of a sequence without errors.
func cyclesOf(c api.Circuit, s memories.State, in [][]api.Value) []cycle {
	var l []cycle
	for _, values := range in {
		next, r, nets, _ := memories.Cycle(c, s, values)
		l = append(l, cycle{nets, r, next})
		s = next
	}
	return l
}

// expectRun compares Run with its definition, and returns the error.
func expectRun(t *testing.T, name string, c api.Circuit, s memories.State, in [][]api.Value) api.Errno {
	t.Helper()
	got, last, e := Run(c, s, in...)
	if want := runError(c, s, in); e != want {
		t.Errorf("%s: Run returns error %d, not %d", name, e, want)
		return e
	}
	if e != api.OK {
		if len(got)+len(last.Dff)+len(last.Words)+len(last.Read) != 0 {
			t.Errorf("%s: Run returns %v and %s with error %d", name, got, show(last), e)
		}
		return e
	}
	var responses []api.Response
	want := s
	for _, x := range cyclesOf(c, s, in) {
		responses, want = append(responses, x.response), x.next
	}
	if !slices.EqualFunc(got, responses, sameResponse) || !sameState(last, want) {
		t.Errorf("%s: Run returns %v and %s, not %v and %s", name, got, show(last), responses, show(want))
	}
	return e
}

// unrollError returns the error of Unroll.
func unrollError(c api.Circuit, n int) api.Errno {
	switch e := netlists.Check(c); {
	case e != api.OK:
		return e
	case len(c.Mems) > 0 || count(c, api.Mem) > 0:
		return api.ErrKind
	case n < 1:
		return api.ErrArg
	case n > 1024 || n*len(c.Nodes)+count(c, api.Dff) > 16384 || n*(len(c.Outs)+count(c, api.Dff)) > 16384:
		return api.ErrLimit
	}
	return api.OK
}

// expansionOf returns the expansion of a valid circuit without memories.
func expansionOf(c api.Circuit, n int) api.Circuit {
	var dffs []int
	for i, node := range c.Nodes {
		if node.Kind == api.Dff {
			dffs = append(dffs, i)
		}
	}
	net := func(frame, i int) int { return frame*len(c.Nodes) + i }
	var x api.Circuit
	add := func(frame, i int, kind api.Kind, nets ...int) {
		x.Nodes = append(x.Nodes, in(kind, nets...))
		x.Names = append(x.Names, strconv.Itoa(frame)+"."+strconv.Itoa(i))
	}
	for k := range n * len(c.Nodes) {
		frame, i := k/len(c.Nodes), k%len(c.Nodes)
		node := c.Nodes[i]
		var nets []int
		for _, from := range node.In {
			nets = append(nets, net(frame, from))
		}
		switch {
		case node.Kind == api.Dff && frame == 0:
			add(frame, i, api.Input)
		case node.Kind == api.Dff:
			add(frame, i, api.Buf, net(frame-1, node.In[0]))
		default:
			add(frame, i, node.Kind, nets...)
		}
	}
	for _, d := range dffs {
		add(n, d, api.Buf, net(n-1, c.Nodes[d].In[0]))
	}
	for frame := range n {
		for _, out := range c.Outs {
			x.Outs = append(x.Outs, net(frame, out))
		}
		for k, d := range dffs {
			carrier := net(frame+1, d)
			if frame == n-1 {
				carrier = n*len(c.Nodes) + k
			}
			x.Outs = append(x.Outs, carrier)
		}
	}
	return x
}

// expectUnroll compares Unroll with its definition, and returns the expansion and the error.
func expectUnroll(t *testing.T, name string, c api.Circuit, n int) (Frames, api.Errno) {
	t.Helper()
	got, e := Unroll(c, n)
	name += ", " + strconv.Itoa(n) + " frames"
	if want := unrollError(c, n); e != want {
		t.Errorf("%s: Unroll returns error %d, not %d", name, e, want)
		return got, e
	}
	if e != api.OK {
		if !netlists.Same(got.Circuit, api.Circuit{}) || len(got.Nodes) != 0 {
			t.Errorf("%s: Unroll returns %v with error %d", name, got, e)
		}
		return got, e
	}
	if want := expansionOf(c, n); !netlists.Same(got.Circuit, want) {
		t.Errorf("%s: Unroll returns\n%v, not\n%v", name, got.Circuit, want)
	}
	if f := netlists.Check(got.Circuit); f != api.OK {
		t.Errorf("%s: the expansion has the error %d", name, f)
	}
	right := len(got.Nodes) == n
	for frame, l := range got.Nodes {
		right = right && len(l) == len(c.Nodes)
		for i, node := range l {
			right = right && node == frame*len(c.Nodes)+i
		}
	}
	if !right {
		t.Errorf("%s: Unroll returns the nodes %v", name, got.Nodes)
	}
	return got, e
}

// patternError returns the error of Pattern.
func patternError(c api.Circuit, state []api.Value, in [][]api.Value) api.Errno {
	if e := unrollError(c, len(in)); e != api.OK {
		return e
	}
	if len(state) != count(c, api.Dff) {
		return api.ErrWidth
	}
	for _, l := range in {
		if len(l) != count(c, api.Input) {
			return api.ErrWidth
		}
	}
	above := func(l []api.Value, most api.Value) bool {
		return slices.ContainsFunc(l, func(v api.Value) bool { return v > most })
	}
	if above(state, 2) || above(slices.Concat(in...), 3) {
		return api.ErrArg
	}
	return api.OK
}

// expectPattern compares Pattern with its definition, and returns the pattern and the error.
func expectPattern(t *testing.T, name string, c api.Circuit, state []api.Value, in [][]api.Value) (api.Pattern, api.Errno) {
	t.Helper()
	got, e := Pattern(c, state, in...)
	if want := patternError(c, state, in); e != want {
		t.Errorf("%s: Pattern returns error %d, not %d", name, e, want)
		return got, e
	}
	var want []api.Value
	if e == api.OK {
		for i, n := range expansionOf(c, len(in)).Nodes {
			if n.Kind != api.Input {
				continue
			}
			frame, node := i/len(c.Nodes), i%len(c.Nodes)
			if c.Nodes[node].Kind == api.Dff {
				want = append(want, state[rank(c, node)])
			} else {
				want = append(want, in[frame][rank(c, node)])
			}
		}
	}
	if !slices.Equal(got.In, want) || len(got.State) != 0 {
		t.Errorf("%s: Pattern returns %v, not %v, error %d", name, got, want, e)
	}
	return got, e
}

// splitError returns the error of Split.
func splitError(c api.Circuit, n int, r api.Response) api.Errno {
	if e := unrollError(c, n); e != api.OK {
		return e
	}
	x := expansionOf(c, n)
	if len(r.Out) != len(x.Outs) || len(r.Next) != count(x, api.Dff) {
		return api.ErrWidth
	}
	return api.OK
}

// expectSplit compares Split with its definition, and returns the error.
func expectSplit(t *testing.T, name string, c api.Circuit, n int, r api.Response) api.Errno {
	t.Helper()
	got, e := Split(c, n, r)
	name += ", " + strconv.Itoa(n) + " frames"
	if want := splitError(c, n, r); e != want {
		t.Errorf("%s: Split returns error %d, not %d", name, e, want)
		return e
	}
	var want []api.Response
	if e == api.OK {
		rest := r.Out
		cut := func(count int) []api.Value {
			var l []api.Value
			for range count {
				l, rest = append(l, rest[0]), rest[1:]
			}
			return l
		}
		for range n {
			out := cut(len(c.Outs))
			want = append(want, api.Response{Out: out, Next: cut(count(c, api.Dff))})
		}
	}
	if !slices.EqualFunc(got, want, sameResponse) {
		t.Errorf("%s: Split returns %v, not %v, error %d", name, got, want, e)
	}
	return e
}

// expectSettled compares Settled with its definition, and returns what it returns.
func expectSettled(t *testing.T, name string, c api.Circuit, in [][]api.Value) ([]int, api.Errno) {
	t.Helper()
	got, e := Settled(c, in...)
	blank := memories.Blank(c)
	if want := runError(c, blank, in); e != want {
		t.Errorf("%s: Settled returns error %d, not %d", name, e, want)
		return got, e
	}
	var want []int
	if e == api.OK {
		for _, x := range cyclesOf(c, blank, in) {
			want = nil
			for i, n := range c.Nodes {
				if n.Kind == api.Dff && x.next.Dff[rank(c, i)] <= api.V1 {
					want = append(want, i)
				}
			}
		}
	}
	if !slices.Equal(got, want) {
		t.Errorf("%s: Settled returns %v, not %v, error %d", name, got, want, e)
	}
	return got, e
}

// rank returns how many nodes before a node are of its kind.
func rank(c api.Circuit, node int) int {
	return count(api.Circuit{Nodes: c.Nodes[:node]}, c.Nodes[node].Kind)
}

// count returns the number of nodes of a kind.
func count(c api.Circuit, kind api.Kind) int {
	n := 0
	for _, node := range c.Nodes {
		if node.Kind == kind {
			n++
		}
	}
	return n
}

// sameResponse reports whether two responses have the same lengths and values.
func sameResponse(a, b api.Response) bool {
	return slices.Equal(a.Out, b.Out) && slices.Equal(a.Next, b.Next)
}

// sameWords reports whether two lists of words have the same lengths and values.
func sameWords(a, b [][]api.Value) bool {
	return slices.EqualFunc(a, b, func(v, w []api.Value) bool { return slices.Equal(v, w) })
}

// sameState reports whether two states have the same lengths and values.
func sameState(a, b memories.State) bool {
	return slices.Equal(a.Dff, b.Dff) && slices.EqualFunc(a.Words, b.Words, sameWords) && sameWords(a.Read, b.Read)
}

// outs returns the texts of the outputs in each cycle.
func outs(l []api.Response) string {
	s := ""
	for _, r := range l {
		s += logic.Text(r.Out...) + " "
	}
	return s
}

// nexts returns the texts of the next states of each cycle.
func nexts(l []api.Response) string {
	s := ""
	for _, r := range l {
		s += logic.Text(r.Next...) + " "
	}
	return s
}
