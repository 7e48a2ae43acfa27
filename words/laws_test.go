package words_test

import (
	"slices"
	"testing"

	"probecard/api"
	"probecard/logic"
	. "probecard/words"
)

// P7.4

// permuted returns w with the lane i in the lane to[i].
func permuted(w Word, to []int) Word {
	var out Word
	for lane, other := range to {
		out = with(out, other, laneOf(w, lane))
	}
	return out
}

// allPermuted returns words with the lane i in the lane to[i].
func allPermuted(l []Word, to []int) []Word {
	out := make([]Word, len(l))
	for i, w := range l {
		out[i] = permuted(w, to)
	}
	return out
}

// lists calls f for random words, kinds and permutations of the lanes.
func lists(seed random, f func(r *random, kind api.Kind, in []Word)) {
	r := &seed
	for kind := range api.Mem + 3 {
		least, most := logic.Fanin(kind)
		for range 200 {
			n := r.below(20)
			if most >= least && r.below(4) > 0 {
				n = least + r.below(most-least+1)
			}
			f(r, kind, r.words(n))
		}
	}
}

// TestPermutedEval permutes the lanes of all inputs.
func TestPermutedEval(t *testing.T) {
	lists(31, func(r *random, kind api.Kind, in []Word) {
		to := r.permutation(64)
		w := Eval(kind, in...)
		if got, want := Eval(kind, allPermuted(in, to)...), permuted(w, to); got != want {
			t.Errorf("kind %d of %v: %v, not %v, for the lanes %v", kind, in, got, want, to)
		}
	})
}

// TestLaneAlone changes one lane of the inputs: all other lanes of the result stay as they were.
func TestLaneAlone(t *testing.T) {
	changed := 0
	lists(32, func(r *random, kind api.Kind, in []Word) {
		before := Eval(kind, in...)
		lane := r.below(64)
		other := slices.Clone(in)
		for pin, w := range in {
			if r.below(3) == 0 {
				other[pin] = with(w, lane, api.Value(r.below(4)))
			}
		}
		after := Eval(kind, other...)
		if with(after, lane, laneOf(before, lane)) != before {
			t.Errorf("kind %d of %v: %v becomes %v with lane %d", kind, in, before, after, lane)
		}
		if after != before {
			changed++
		}
	})
	if changed < 150 {
		t.Errorf("%d words change", changed)
	}
}

// TestPermutedValues permutes the arguments of Pack and the lanes of Unpack.
func TestPermutedValues(t *testing.T) {
	r := random(33)
	for range 300 {
		to := r.permutation(64)
		l := r.values(64, 6)
		moved := make([]api.Value, 64)
		for lane, v := range l {
			moved[to[lane]] = v
		}
		if got, want := Pack(moved...), permuted(Pack(l...), to); got != want {
			t.Errorf("%v: %v, not %v", l, got, want)
		}
		for lane, v := range Unpack(permuted(Pack(l...), to), 64) {
			if v != logic.Clean(moved[lane]) {
				t.Errorf("%v: lane %d is %d", l, lane, v)
			}
		}
	}
}

// TestPermutedRun permutes the patterns of Run.
func TestPermutedRun(t *testing.T) {
	r := random(34)
	for i, c := range circuits(150, 30) {
		l := r.patterns(64, c, 4)
		to := r.permutation(64)
		moved := make([]api.Pattern, 64)
		for lane, p := range l {
			moved[to[lane]] = p
		}
		responses, nets, _ := Run(c, l...)
		others, got, e := Run(c, moved...)
		if e != api.OK || !slices.Equal(got, allPermuted(nets, to)) {
			t.Errorf("circuit %d: %v, not %v permuted by %v, with error %d", i, got, nets, to, e)
		}
		for lane, response := range responses {
			if e == api.OK && !sameResponse(response, others[to[lane]]) {
				t.Errorf("circuit %d: response %d is %v, not %v", i, to[lane], others[to[lane]], response)
			}
		}
	}
}

// TestRunLaneAlone changes, drops and adds patterns: the lanes and responses of the others stay as they were.
func TestRunLaneAlone(t *testing.T) {
	r := random(35)
	for i, c := range circuits(150, 30) {
		l := r.patterns(1+r.below(64), c, 4)
		at := r.below(len(l))
		responses, nets, _ := Run(c, l...)
		expectSame := func(list []api.Pattern, lanes ...int) {
			others, got, e := Run(c, list...)
			for _, lane := range lanes {
				if e != api.OK || !slices.Equal(lanesOf(got, lane), lanesOf(nets, lane)) || !sameResponse(others[lane], responses[lane]) {
					t.Errorf("circuit %d: other values in lane %d with other patterns, error %d", i, lane, e)
				}
			}
		}
		var before, behind []int
		for lane := range l {
			if lane < at {
				before = append(before, lane)
			} else if lane > at {
				behind = append(behind, lane)
			}
		}
		expectSame(slices.Concat(l[:at], r.patterns(1, c, 4), l[at+1:]), append(slices.Clone(before), behind...)...)
		expectSame(l[:at], before...)
		expectSame(slices.Concat(l[:at], r.patterns(64-at, c, 4)), before...)
	}
}

// TestEqualWords compares words: they are equal if and only if all their lanes are.
func TestEqualWords(t *testing.T) {
	r := random(36)
	equal, unequal := 0, 0
	for range 3000 {
		a := r.word()
		b := a
		for range r.below(3) {
			b = with(b, r.below(64), api.Value(r.below(4)))
		}
		same := true
		for lane := range 64 {
			same = same && a.At(lane) == b.At(lane)
		}
		if same != (a == b) || same != slices.Equal(Unpack(a, 64), Unpack(b, 64)) {
			t.Errorf("%v and %v", a, b)
		}
		if same {
			equal++
		} else {
			unequal++
		}
	}
	if equal < 500 || unequal < 500 {
		t.Errorf("%d equal and %d unequal words", equal, unequal)
	}
	for lane := range 64 {
		for v := range api.VZ + 1 {
			for other := range api.VZ + 1 {
				if a, b := with(Word{}, lane, v), with(Word{}, lane, other); (a == b) != (a.At(lane) == b.At(lane)) || (a == b) != (v == other) {
					t.Errorf("%v and %v", a, b)
				}
			}
		}
	}
}
