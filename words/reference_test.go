package words_test

import (
	"slices"

	"probecard/api"
	"probecard/logic"
	"probecard/sims"
	. "probecard/words"
)

// The definitions of the chapter, lane by lane.

// laneOf returns the value in a lane of a word, and X if there is no such lane.
func laneOf(w Word, lane int) api.Value {
	if lane < 0 || lane > 63 {
		return api.VX
	}
	one, zero := w.One>>lane%2 == 1, w.Zero>>lane%2 == 1
	switch {
	case one && !zero:
		return api.V1
	case zero && !one:
		return api.V0
	case one && zero:
		return api.VZ
	}
	return api.VX
}

// lanesOf returns the values in the lanes of several words.
func lanesOf(l []Word, lane int) []api.Value {
	var out []api.Value
	for _, w := range l {
		out = append(out, laneOf(w, lane))
	}
	return out
}

// isEval reports whether w has in each lane the function of a kind.
func isEval(w Word, kind api.Kind, in []Word) bool {
	for lane := range 64 {
		if laneOf(w, lane) != logic.Eval(kind, lanesOf(in, lane)...) {
			return false
		}
	}
	return true
}

// errorOf returns the error that Run must have.
func errorOf(c api.Circuit, l []api.Pattern) api.Errno {
	if len(l) > 64 {
		return api.ErrLimit
	}
	for _, p := range append([]api.Pattern{sims.Blank(c)}, l...) {
		if e := sims.Check(c, p); e != api.OK {
			return e
		}
	}
	return api.OK
}

// isRun reports whether responses and words are those of a circuit for patterns without error.
func isRun(c api.Circuit, l []api.Pattern, responses []api.Response, nets []Word) bool {
	if len(responses) != len(l) || len(nets) != len(c.Nodes) {
		return false
	}
	for i, p := range l {
		r, want, _ := sims.Run(c, p)
		if !sameResponse(r, responses[i]) || !slices.Equal(lanesOf(nets, i), want) {
			return false
		}
	}
	_, blank, _ := sims.Run(c, sims.Blank(c))
	for lane := len(l); lane < 64; lane++ {
		if !slices.Equal(lanesOf(nets, lane), blank) {
			return false
		}
	}
	return true
}

// sameResponse reports whether two responses have the same values.
func sameResponse(a, b api.Response) bool {
	return slices.Equal(a.Out, b.Out) && slices.Equal(a.Next, b.Next)
}
