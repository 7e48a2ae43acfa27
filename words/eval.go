package words

import (
	"probecard/api"
	"probecard/logic"
)

// Eval returns the output of a combinational node in every lane.
func Eval(kind api.Kind, in ...Word) Word {
	least, most := logic.Fanin(kind)
	if len(in) < least || len(in) > most {
		return Fill(api.VX)
	}
	w := direct(kind, in)
	if logic.Inverts(kind) {
		w.One, w.Zero = w.Zero, w.One
	}
	return w
}

// direct returns the function of a kind, for a number of inputs that it allows; for one that inverts, the complement.
func direct(kind api.Kind, in []Word) Word {
	switch kind {
	case api.Zero:
		return Fill(api.V0)
	case api.One:
		return Fill(api.V1)
	case api.Buf, api.Not:
		return in[0].read()
	case api.And, api.Nand:
		return and(in)
	case api.Or, api.Nor:
		return or(in)
	case api.Xor, api.Xnor:
		return xor(in)
	case api.Mux:
		return mux(in[0].read(), in[1].read(), in[2].read())
	case api.Tri:
		return tri(in[0].read(), in[1].read())
	case api.Bus:
		return bus(in)
	}
	return Fill(api.VX)
}

// read returns the word as a gate reads it: with X for Z. No bit of it is set in both One and Zero.
func (w Word) read() Word { return Word{One: w.One &^ w.Zero, Zero: w.Zero &^ w.One} }

// and returns the conjunction of words.
func and(in []Word) Word {
	w := Fill(api.V1)
	for _, x := range in {
		x = x.read()
		w.One &= x.One
		w.Zero |= x.Zero
	}
	return w
}

// or returns the disjunction of words.
func or(in []Word) Word {
	w := Fill(api.V0)
	for _, x := range in {
		x = x.read()
		w.One |= x.One
		w.Zero &= x.Zero
	}
	return w
}

// xor returns the exclusive disjunction of words.
func xor(in []Word) Word {
	var odd uint64
	known := uint64(all)
	for _, x := range in {
		x = x.read()
		odd ^= x.One
		known &= x.One | x.Zero
	}
	return Word{One: known & odd, Zero: known &^ odd}
}

// mux returns a where sel is 0, b where it is 1, and the value that they have in common where it is X.
func mux(sel, a, b Word) Word {
	choose := func(a, b uint64) uint64 { return sel.Zero&a | sel.One&b | a&b }
	return Word{One: choose(a.One, b.One), Zero: choose(a.Zero, b.Zero)}
}

// tri returns data where enable is 1, and Z where it is 0.
func tri(enable, data Word) Word {
	return Word{One: enable.Zero | enable.One&data.One, Zero: enable.Zero | enable.One&data.Zero}
}

// bus returns the value of a net with several drivers. A bit that is set for all of them stays set:
// Z gives way to every other value, 0 and 1 together leave no bit, and nor does anything with X.
func bus(in []Word) Word {
	w := Fill(api.VZ)
	for _, x := range in {
		w.One &= x.One
		w.Zero &= x.Zero
	}
	return w
}
