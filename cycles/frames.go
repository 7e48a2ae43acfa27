package cycles

import (
	"slices"
	"strconv"

	"probecard/api"
	"probecard/netlists"
)

// Frames is a circuit that does several cycles of another one at once.
type Frames struct {
	Circuit api.Circuit
	Nodes   [][]int // for each frame: the node that carries each net of the original circuit
}

// checkFrames returns the error of the expansion of a circuit to n frames.
func checkFrames(c api.Circuit, n int) api.Errno {
	if e := netlists.Check(c); e != api.OK {
		return e
	}
	states := len(netlists.States(c))
	switch {
	case len(c.Mems) > 0: // a Mem node of a valid circuit needs a memory, so it is not looked for
		return api.ErrKind
	case n < 1:
		return api.ErrArg
	case n > api.MaxCycles || n*len(c.Nodes)+states > api.MaxNodes || n*(len(c.Outs)+states) > api.MaxNodes:
		return api.ErrLimit
	}
	return api.OK
}

// Unroll returns the expansion of a circuit to n frames.
func Unroll(c api.Circuit, n int) (Frames, api.Errno) {
	if e := checkFrames(c, n); e != api.OK {
		return Frames{}, e
	}
	size, states := len(c.Nodes), netlists.States(c)
	x := api.Circuit{
		Nodes: make([]api.Node, 0, n*size+len(states)),
		Names: make([]string, 0, n*size+len(states)),
		Outs:  make([]int, 0, n*(len(c.Outs)+len(states))),
	}
	// build adds nodes of c as they are in a frame, and returns their indices.
	build := func(frame int, nodes []int) []int {
		first := len(x.Nodes)
		for _, i := range nodes {
			x.Nodes = append(x.Nodes, nodeIn(c, i, frame))
			x.Names = append(x.Names, strconv.Itoa(frame)+"."+strconv.Itoa(i))
		}
		return numbers(first, len(nodes))
	}
	frames := make([][]int, n)
	for frame := range n {
		frames[frame] = build(frame, numbers(0, size))
		if frame > 0 { // its Dff nodes carry the next state of the frame before it
			x.Outs = append(x.Outs, moved(states, frame*size)...)
		}
		x.Outs = append(x.Outs, moved(c.Outs, frame*size)...)
	}
	x.Outs = append(x.Outs, build(n, states)...)
	return Frames{Circuit: x, Nodes: frames}, api.OK
}

// nodeIn returns what stands for node i of a circuit in a frame.
func nodeIn(c api.Circuit, i, frame int) api.Node {
	n, size := c.Nodes[i], len(c.Nodes)
	switch {
	case n.Kind != api.Dff:
		return api.Node{Kind: n.Kind, In: moved(n.In, frame*size)}
	case frame == 0:
		return api.Node{Kind: api.Input}
	}
	return api.Node{Kind: api.Buf, In: moved(n.In, (frame-1)*size)}
}

// moved returns the nets that are by places behind those of l.
func moved(l []int, by int) []int {
	out := make([]int, len(l))
	for i, net := range l {
		out[i] = net + by
	}
	return out
}

// numbers returns count numbers from first on.
func numbers(first, count int) []int {
	l := make([]int, count)
	for i := range l {
		l[i] = first + i
	}
	return l
}

// Pattern returns the pattern of an expansion for a state and the inputs of all frames.
func Pattern(c api.Circuit, state []api.Value, in ...[]api.Value) (api.Pattern, api.Errno) {
	e := checkFrames(c, len(in))
	if e == api.OK {
		e = checkSequence(c, state, in)
	}
	if e != api.OK {
		return api.Pattern{}, e
	}
	inputs, states := netlists.Inputs(c), netlists.States(c)
	nets := make([]api.Value, len(c.Nodes))
	assign(nets, inputs, in[0])
	assign(nets, states, state)
	l := make([]api.Value, 0, len(states)+len(in)*len(inputs))
	for _, i := range netlists.Of(c, api.Input, api.Dff) {
		l = append(l, nets[i])
	}
	for _, values := range in[1:] {
		l = append(l, values...)
	}
	return api.Pattern{In: l}, api.OK
}

// checkSequence returns the error of a state and a sequence of inputs for a valid circuit without memories.
func checkSequence(c api.Circuit, state []api.Value, in [][]api.Value) api.Errno {
	inputs, states := len(netlists.Inputs(c)), len(netlists.States(c))
	above := func(l []api.Value, most api.Value) bool {
		return slices.ContainsFunc(l, func(v api.Value) bool { return v > most })
	}
	switch {
	case len(state) != states || slices.ContainsFunc(in, func(l []api.Value) bool { return len(l) != inputs }):
		return api.ErrWidth
	case above(state, api.VX) || slices.ContainsFunc(in, func(l []api.Value) bool { return above(l, api.VZ) }):
		return api.ErrArg
	}
	return api.OK
}

// assign gives each node of l its value.
func assign(nets []api.Value, l []int, values []api.Value) {
	for i, node := range l {
		nets[node] = values[i]
	}
}

// Split returns the responses of the frames of an expansion.
func Split(c api.Circuit, n int, r api.Response) ([]api.Response, api.Errno) {
	if e := checkFrames(c, n); e != api.OK {
		return nil, e
	}
	outs := len(c.Outs)
	size := outs + len(netlists.States(c))
	if len(r.Out) != n*size || len(r.Next) != 0 {
		return nil, api.ErrWidth
	}
	all, responses := clone(r.Out), make([]api.Response, n)
	for frame := range n {
		start, end := frame*size, (frame+1)*size
		// The capacities end with the parts, so that none of them can grow into the next one.
		responses[frame] = api.Response{Out: all[start : start+outs : start+outs], Next: all[start+outs : end : end]}
	}
	return responses, api.OK
}
