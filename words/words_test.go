package words_test

import (
	"math"
	"slices"
	"testing"

	"probecard/api"
	"probecard/logic"
	. "probecard/words"
)

// P7.1

// counts returns numbers of lanes, and lanes, of which few exist.
func counts() []int {
	l := []int{math.MinInt, math.MinInt + 1, math.MinInt32, -1 << 32, -128, -64, -63, 127, 128, 129, 192, 256, 1 << 16, math.MaxInt32, 1 << 32, 1<<32 + 3, math.MaxInt - 1, math.MaxInt}
	for i := -5; i < 80; i++ {
		l = append(l, i)
	}
	return l
}

// TestExamples has the calls of the chapter's table.
func TestExamples(t *testing.T) {
	const all = math.MaxUint64
	if w := Fill(api.V1); w != (Word{all, 0}) {
		t.Error(w)
	}
	if w := Fill(api.VZ); w != (Word{all, all}) {
		t.Error(w)
	}
	w := Pack(api.V1, api.V0, api.VX, api.VZ)
	if w != (Word{9, 10}) {
		t.Error(w)
	}
	for lane, v := range map[int]api.Value{0: 1, 1: 0, 2: api.VX, 3: api.VZ, 4: api.VX, 64: api.VX} {
		if w.At(lane) != v {
			t.Errorf("lane %d is %d", lane, w.At(lane))
		}
	}
	if w := Eval(api.And, Pack(1, 1, 0), Pack(1, api.VX, api.VX)); w != (Word{1, 4}) {
		t.Error(w)
	}
	if w := Eval(api.Tri, Pack(0, 1), Pack(1, 1)); w != (Word{3, 1}) {
		t.Error(w)
	}
}

// TestFill has all values of a byte.
func TestFill(t *testing.T) {
	for v := range 256 {
		want := Word{}
		if v == 1 || v == 3 {
			want.One = math.MaxUint64
		}
		if v == 0 || v == 3 {
			want.Zero = math.MaxUint64
		}
		w := Fill(api.Value(v))
		if w != want {
			t.Errorf("Fill(%d) is %v", v, w)
		}
		for lane := range 64 {
			if got := w.At(lane); got != logic.Clean(api.Value(v)) {
				t.Errorf("Fill(%d): lane %d is %d", v, lane, got)
			}
		}
	}
}

// TestPackAlone has each value of a byte in each lane.
func TestPackAlone(t *testing.T) {
	for lane := range 64 {
		bit := uint64(1) << lane
		want := [4]Word{{0, bit}, {bit, 0}, {0, 0}, {bit, bit}}
		l := slices.Repeat([]api.Value{api.VX}, lane+1)
		for v := range 256 {
			l[lane] = api.Value(v)
			if w := Pack(l...); w != want[logic.Clean(l[lane])] {
				t.Errorf("%d in lane %d: %v", v, lane, w)
			}
			if w := Pack(append(l, 0)...); lane == 63 && w != want[logic.Clean(l[lane])] {
				t.Errorf("%d in lane 63, and one more: %v", v, w)
			}
		}
	}
}

// TestPackCounts has lists of 0 to 200 values, and long ones, also with values above VZ.
func TestPackCounts(t *testing.T) {
	if w := Pack(); w != (Word{}) {
		t.Errorf("of no argument: %v", w)
	}
	r := random(1)
	for _, limit := range []int{2, 4, 6, 256} {
		for n := range 200 {
			expectPack(t, r.values(n, limit))
		}
		expectPack(t, r.values(5000, limit))
	}
	for v := range 256 {
		for _, n := range []int{63, 64, 65, 128} {
			expectPack(t, slices.Repeat([]api.Value{api.Value(v)}, n))
			expectPack(t, append(slices.Repeat([]api.Value{api.VX}, n), api.Value(v)))
		}
	}
}

// expectPack checks every lane of the word of l.
func expectPack(t *testing.T, l []api.Value) {
	t.Helper()
	w := Pack(l...)
	for lane := range 64 {
		want := api.VX
		if lane < len(l) {
			want = logic.Clean(l[lane])
		}
		if got := laneOf(w, lane); got != want {
			t.Errorf("%v: lane %d is %d, not %d", l, lane, got, want)
		}
	}
}

// TestAt has all values in all lanes, and lanes that there are not.
func TestAt(t *testing.T) {
	r := random(2)
	l := []Word{{}, Fill(0), Fill(1), Fill(3), with(Fill(1), 63, 0), with(Fill(0), 0, 1), {One: 1 << 63}, {Zero: 1 << 63}, {One: 1, Zero: 1}}
	for range 300 {
		l = append(l, r.word())
	}
	for _, w := range l {
		for _, lane := range counts() {
			if got, want := w.At(lane), laneOf(w, lane); got != want {
				t.Errorf("%v: lane %d is %d, not %d", w, lane, got, want)
			}
		}
	}
}

// TestUnpack has all numbers of lanes.
func TestUnpack(t *testing.T) {
	r := random(3)
	for _, w := range []Word{{}, Fill(0), Fill(1), Fill(3), r.word(), r.word(), r.word(), r.word()} {
		for _, n := range counts() {
			var want []api.Value
			for lane := 0; lane < n && lane < 64; lane++ {
				want = append(want, laneOf(w, lane))
			}
			if l := Unpack(w, n); !slices.Equal(l, want) || cap(l) != len(want) {
				t.Errorf("%v: %d lanes are %s, not %s", w, n, logic.Text(l...), logic.Text(want...))
			}
		}
	}
}

// TestPackUnpack checks that Pack and Unpack undo each other.
func TestPackUnpack(t *testing.T) {
	r := random(4)
	for range 1000 {
		w := r.word()
		if got := Pack(Unpack(w, 64)...); got != w {
			t.Errorf("%v becomes %v", w, got)
		}
		l := r.values(r.below(65), 4)
		if got := Unpack(Pack(l...), len(l)); !slices.Equal(got, l) {
			t.Errorf("%v becomes %v", l, got)
		}
		n := r.below(65)
		want := append(Unpack(w, n), slices.Repeat([]api.Value{api.VX}, 64-n)...)
		if got := Unpack(Pack(Unpack(w, n)...), 64); !slices.Equal(got, want) {
			t.Errorf("%d lanes of %v become %v", n, w, got)
		}
	}
}
