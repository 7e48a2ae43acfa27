package memories

import (
	"slices"

	"probecard/api"
	"probecard/logic"
)

// Look returns the word at an address.
func Look(words [][]api.Value, addr []api.Value) []api.Value {
	if len(words) == 0 {
		return nil
	}
	width := len(words[0])
	matches := matcher(addr)
	out := unknown(width)
	found := false
	for i, word := range words {
		switch {
		case !matches(i):
		case !found:
			out, found = bits(word, width), true
		default:
			agreed(out, bits(word, width))
		}
	}
	return out
}

// Store returns the words after a write.
func Store(words [][]api.Value, addr, data []api.Value, enable api.Value) [][]api.Value {
	certain := enable == api.V1 && !slices.ContainsFunc(addr, func(v api.Value) bool { return !logic.Known(v) })
	matches := matcher(addr)
	out := make([][]api.Value, len(words))
	for i, word := range words {
		out[i] = bits(word, len(word))
		switch {
		case enable == api.V0 || !matches(i):
		case certain:
			out[i] = bits(data, len(word))
		default:
			agreed(out[i], bits(data, len(word)))
		}
	}
	return out
}

// matcher returns a function that reports whether an index matches an address.
func matcher(addr []api.Value) func(i int) bool {
	return func(i int) bool {
		for k, v := range addr {
			if logic.Known(v) && v != api.Value(i>>k&1) {
				return false
			}
		}
		return i>>len(addr) == 0
	}
}

// bits returns a new word with the first bits of a word, as gates read them. Bits that it lacks are unknown.
func bits(word []api.Value, width int) []api.Value {
	out := unknown(width)
	copy(out, word)
	for b, v := range out {
		out[b] = logic.Read(v)
	}
	return out
}

// agreed makes each bit of a word unknown that differs from that of another word.
func agreed(word, other []api.Value) {
	for b, v := range other {
		if word[b] != v {
			word[b] = api.VX
		}
	}
}
