package rewrites

import (
	"slices"

	"probecard/api"
	"probecard/netlists"
	"probecard/sims"
)

// mostDigits is the number of Input and Dff nodes up to which Equal tries all patterns.
const mostDigits = 12

// Equal reports whether two circuits have the same response to every binary pattern, or returns a pattern that tells them apart.
func Equal(a, b api.Circuit) (api.Pattern, bool, api.Errno) {
	if e := checkEqual(a, b); e != api.OK {
		return api.Pattern{}, false, e
	}
	respondA, respondB := responder(a), responder(b)
	size := sizeOf(a)
	for k := range 1 << (size.inputs + size.states) {
		p := patternOf(k, size)
		if !sameResponse(respondA(p), respondB(p)) {
			return p, false, api.OK
		}
	}
	return api.Pattern{}, true, api.OK
}

// checkEqual returns the error of the arguments of Equal.
func checkEqual(a, b api.Circuit) api.Errno {
	if e := netlists.Check(a); e != api.OK {
		return e
	}
	size := sizeOf(a)
	switch e := netlists.Check(b); {
	case e != api.OK:
		return e
	case len(a.Mems)+len(b.Mems) > 0: // a valid circuit with a Mem node has a memory
		return api.ErrKind
	case size != sizeOf(b):
		return api.ErrWidth
	case size.inputs+size.states > mostDigits:
		return api.ErrLimit
	}
	return api.OK
}

// size is what two circuits have in common if they can be compared.
type size struct{ inputs, states, outs int }

// sizeOf returns the size of a circuit.
func sizeOf(c api.Circuit) size {
	return size{len(netlists.Inputs(c)), len(netlists.States(c)), len(c.Outs)}
}

// patternOf returns the pattern number k for circuits of a size.
func patternOf(k int, s size) api.Pattern {
	digits := func(n int) []api.Value {
		l := make([]api.Value, n)
		for i := range l {
			l[i] = api.Value(k & 1)
			k >>= 1
		}
		return l
	}
	in := digits(s.inputs)
	return api.Pattern{In: in, State: digits(s.states)}
}

// responder returns a function that returns what sims.Run does for a valid circuit without memories and its patterns, but does not check them anew each time.
func responder(c api.Circuit) func(p api.Pattern) api.Response {
	inputs, states, order := netlists.Inputs(c), netlists.States(c), order(c)
	nets := make([]api.Value, len(c.Nodes))
	return func(p api.Pattern) api.Response {
		for i, n := range inputs {
			nets[n] = p.In[i]
		}
		for i, n := range states {
			nets[n] = p.State[i]
		}
		settle(c, order, nets)
		return sims.Observe(c, nets)
	}
}

// sameResponse reports whether two responses are equal.
func sameResponse(a, b api.Response) bool {
	return slices.Equal(a.Out, b.Out) && slices.Equal(a.Next, b.Next)
}
