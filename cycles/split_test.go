package cycles_test

import (
	"strconv"
	"testing"

	"probecard/api"
	. "probecard/cycles"
)

// P10.4

// TestSplitTable has responses that are cut by hand.
func TestSplitTable(t *testing.T) {
	for _, x := range []struct {
		name        string
		c           api.Circuit
		n           int
		r           api.Response
		outs, nexts string
		wantError   api.Errno
	}{
		{"example", example(), 1, api.Response{Out: values("01")}, "0 ", "1 ", api.OK},
		{"example", example(), 3, api.Response{Out: values("01XZ10")}, "0 X 1 ", "1 Z 0 ", api.OK},
		{"two outputs", of([]int{0, 1}, in(api.Input), in(api.Dff, 0)), 2, api.Response{Out: values("011X0Z")}, "01 X0 ", "1 Z ", api.OK},
		{"two Dff nodes", of([]int{0}, in(api.Dff, 0), in(api.Dff, 0)), 2, api.Response{Out: values("0Z1X10"), Next: []api.Value{}}, "0 X ", "Z1 10 ", api.OK},
		{"no outputs", of(nil, in(api.Dff, 0)), 2, api.Response{Out: values("01")}, "  ", "0 1 ", api.OK},
		{"no Dff nodes", of([]int{0, 0}, in(api.Input)), 2, api.Response{Out: values("01X1")}, "01 X1 ", "  ", api.OK},
		{"nothing", api.Circuit{}, 3, api.Response{}, "   ", "   ", api.OK},
		{"nothing, but an output", api.Circuit{}, 3, api.Response{Out: values("0")}, "", "", api.ErrWidth},
		{"no frames", example(), 0, api.Response{}, "", "", api.ErrArg},
		{"too many frames", api.Circuit{}, 1025, api.Response{}, "", "", api.ErrLimit},
		{"too short", example(), 2, api.Response{Out: values("01X")}, "", "", api.ErrWidth},
		{"too long", example(), 2, api.Response{Out: values("01X01")}, "", "", api.ErrWidth},
		{"a frame too few", example(), 2, api.Response{Out: values("01")}, "", "", api.ErrWidth},
		{"a frame too many", example(), 2, api.Response{Out: values("010101")}, "", "", api.ErrWidth},
		{"a next state", example(), 2, api.Response{Out: values("0101"), Next: values("0")}, "", "", api.ErrWidth},
		{"the response of one cycle", example(), 1, api.Response{Out: values("0"), Next: values("1")}, "", "", api.ErrWidth},
	} {
		expectSplit(t, x.name, x.c, x.n, x.r)
		l, e := Split(x.c, x.n, x.r)
		if e != x.wantError || outs(l) != x.outs || nexts(l) != x.nexts {
			t.Errorf("%s: outputs %s, next states %s, error %d", x.name, outs(l), nexts(l), e)
		}
	}
}

// marks returns values that are all different, up to 256 of them.
func marks(n int) []api.Value {
	l := make([]api.Value, n)
	for i := range l {
		l[i] = api.Value(i)
	}
	return l
}

// TestSplitLengths has responses of each length, for each number of frames. Values above VZ are returned as they are.
func TestSplitLengths(t *testing.T) {
	for name, c := range map[string]api.Circuit{"plain": plain(), "register": register(3), "example": example()} {
		size := len(c.Outs) + count(c, api.Dff)
		for n := range 6 {
			for length := range 6*size + 2 {
				for next := range 3 {
					want := api.ErrWidth
					switch {
					case n == 0:
						want = api.ErrArg
					case length == n*size && next == 0:
						want = api.OK
					}
					if e := expectSplit(t, name, c, n, api.Response{Out: marks(length), Next: marks(next)}); e != want {
						t.Errorf("%s, %d frames, %d outputs, %d of the next state: error %d, not %d", name, n, length, next, e, want)
					}
				}
			}
		}
	}
}

// TestSplitLimits has expansions at the limits, with responses that fit and with others.
func TestSplitLimits(t *testing.T) {
	r := random(31)
	for _, x := range limits() {
		name := strconv.Itoa(len(x.c.Nodes)) + " nodes"
		size := len(x.c.Outs) + count(x.c, api.Dff)
		for _, extra := range []int{0, 1} {
			want := x.want
			if want == api.OK && extra > 0 {
				want = api.ErrWidth
			}
			if e := expectSplit(t, name, x.c, x.frames, api.Response{Out: r.values(min(x.frames, 1025)*size+extra, 4)}); e != want {
				t.Errorf("%s, %d frames: error %d, not %d", name, x.frames, e, want)
			}
		}
	}
}

// TestSplitRandom compares Split with its definition.
func TestSplitRandom(t *testing.T) {
	r := random(32)
	for i, c := range circuits(400, 20, 1) {
		size := len(c.Outs) + count(c, api.Dff)
		for n := range 6 {
			expectSplit(t, "circuit "+strconv.Itoa(i), c, n, api.Response{Out: r.values(n*size, 256)})
			expectSplit(t, "circuit "+strconv.Itoa(i), c, n, api.Response{Out: r.values(n*size+r.below(3), 256), Next: r.values(r.below(2), 3)})
		}
	}
}
