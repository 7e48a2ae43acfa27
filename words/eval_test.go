package words_test

import (
	"slices"
	"testing"

	"probecard/api"
	"probecard/logic"
	. "probecard/words"
)

// P7.2

// expectEval checks every lane of the function of a kind.
func expectEval(t *testing.T, kind api.Kind, in ...Word) {
	t.Helper()
	if w := Eval(kind, in...); !isEval(w, kind, in) {
		t.Errorf("kind %d of %v is %v", kind, in, w)
	}
}

// columns returns n words whose lanes have, over several calls from i = 0 on, all lists of n values.
func columns(n, i int) []Word {
	l := make([]Word, n)
	for lane := range 64 {
		rest := i*64 + lane
		for pin := range l {
			l[pin] = with(l[pin], lane, api.Value(rest%4))
			rest /= 4
		}
	}
	return l
}

// TestEvalTexts has the functions of all pairs of values, and of some triples: the values of each input as text, and those of the function.
func TestEvalTexts(t *testing.T) {
	const one, two = "0000111XXZ", "01XZ1XZXZZ"
	for kind, x := range map[api.Kind][]string{
		api.Buf:  {"01XZ", "01XX"},
		api.Not:  {"01XZ", "10XX"},
		api.And:  {one, two, "00001XXXXX"},
		api.Nand: {one, two, "11110XXXXX"},
		api.Or:   {one, two, "01XX111XXX"},
		api.Nor:  {one, two, "10XX000XXX"},
		api.Xor:  {one, two, "01XX0XXXXX"},
		api.Xnor: {one, two, "10XX1XXXXX"},
		api.Mux:  {"00001111XXXXZZZXX", "01XZ0101010X011XZ", "101010XZ0111010XZ", "01XX10XX01XX01XXX"},
		api.Tri:  {"00001111XXXXZZZZ", "01XZ01XZ01XZ01XZ", "ZZZZ01XXXXXXXXXX"},
		api.Bus:  {one, two, "0XX01X1XXZ"},
	} {
		last := len(x) - 1
		var in []Word
		for _, s := range x[:last] {
			in = append(in, Pack(values(s)...))
		}
		if s := logic.Text(Unpack(Eval(kind, in...), len(x[last]))...); s != x[last] {
			t.Errorf("kind %d of %v is %s, not %s", kind, x[:last], s, x[last])
		}
		slices.Reverse(in)
		if s := logic.Text(Unpack(Eval(kind, in...), len(x[last]))...); s != x[last] && kind != api.Mux && kind != api.Tri {
			t.Errorf("kind %d of %v in the other order is %s, not %s", kind, x[:last], s, x[last])
		}
	}
	if Eval(api.Zero) != Fill(api.V0) || Eval(api.One) != Fill(api.V1) {
		t.Error("the constants")
	}
}

// TestEvalAll has all kinds of a byte with all lists of up to four values.
func TestEvalAll(t *testing.T) {
	for kind := range 256 {
		for n := range 5 {
			for i := range max(1, 1<<(2*n)/64) {
				expectEval(t, api.Kind(kind), columns(n, i)...)
			}
		}
	}
}

// TestEvalCounts has all kinds of a byte with any number of random words.
func TestEvalCounts(t *testing.T) {
	r := random(11)
	for kind := range 256 {
		for n := range 40 {
			expectEval(t, api.Kind(kind), r.words(n)...)
		}
		expectEval(t, api.Kind(kind), r.words(1000)...)
	}
}

// TestEvalNoFunction has kinds and numbers of words that have no function: X stands in every lane.
func TestEvalNoFunction(t *testing.T) {
	for kind := range 256 {
		least, most := logic.Fanin(api.Kind(kind))
		for n := range 70 {
			hasNone := n < least || n > most || kind == int(api.Input) || kind >= int(api.Dff)
			for v := range api.VZ + 1 {
				w := Eval(api.Kind(kind), slices.Repeat([]Word{Fill(v)}, n)...)
				if hasNone && w != (Word{}) {
					t.Errorf("kind %d of %d words is %v", kind, n, w)
				}
			}
		}
	}
}

// TestEvalWidths has the kinds of several inputs with all numbers of them. In most lanes one input decides.
func TestEvalWidths(t *testing.T) {
	r := random(12)
	for _, kind := range []api.Kind{api.And, api.Nand, api.Or, api.Nor, api.Xor, api.Xnor, api.Bus} {
		seen := map[api.Value]int{}
		for n := 1; n <= api.MaxFanin+1; n++ {
			for range 40 {
				in := make([]Word, n)
				for lane := range 64 {
					v := api.Value(r.below(4))
					for pin := range in {
						in[pin] = with(in[pin], lane, v)
					}
					for range r.below(3) {
						pin := r.below(n)
						in[pin] = with(in[pin], lane, api.Value(r.below(4)))
					}
				}
				expectEval(t, kind, in...)
				for lane := range 64 {
					seen[laneOf(Eval(kind, in...), lane)]++
				}
			}
		}
		if seen[0] < 1000 || seen[1] < 1000 || seen[2] < 1000 || (seen[3] > 1000) != (kind == api.Bus) {
			t.Errorf("kind %d has the values %v", kind, seen)
		}
	}
}

// TestEvalSame has the same word at several inputs, all of the same memory.
func TestEvalSame(t *testing.T) {
	r := random(13)
	for range 100 {
		w := r.word()
		for kind := range api.Mem + 2 {
			for n := range api.MaxFanin + 2 {
				expectEval(t, kind, slices.Repeat([]Word{w}, n)...)
			}
		}
	}
}
