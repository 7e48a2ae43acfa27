package cycles_test

import (
	"slices"
	"strconv"
	"strings"
	"testing"

	"probecard/api"
	"probecard/logic"
)

// P10.3

// TestPatternTable has patterns that are written by hand.
func TestPatternTable(t *testing.T) {
	turns := of(nil, in(api.Dff, 1), in(api.Input), in(api.Dff, 0), in(api.Dff, 4), in(api.Input), in(api.Not, 0), in(api.Input), in(api.Dff, 6))
	for _, x := range []struct {
		name      string
		c         api.Circuit
		state     string
		in        [][]api.Value
		want      string
		wantError api.Errno
	}{
		{"example", example(), "0", sequence("1 1"), "101", api.OK},
		{"example", example(), "X", sequence("Z"), "ZX", api.OK},
		{"example", example(), "1", sequence("0 Z X 1"), "01ZX1", api.OK},
		{"turns", turns, "01X0", sequence("1Z0"), "011XZ00", api.OK},
		{"turns", turns, "0011", sequence("110 0XZ 111"), "01011010XZ111", api.OK},
		{"turns", turns, "XXXX", sequence("ZZZ ZZZ"), "XZXXZZXZZZ", api.OK},
		{"plain", plain(), "01X", sequence("10Z X01"), "1001ZXX01", api.OK},
		{"register", register(3), "01X", sequence("1 0"), "101X0", api.OK},
		{"no inputs", of(nil, in(api.Dff, 1), in(api.Not, 0)), "1", make([][]api.Value, 3), "1", api.OK},
		{"no inputs", of(nil, in(api.Dff, 1), in(api.Not, 0)), "1", [][]api.Value{{}, {}}, "1", api.OK},
		{"no Dff nodes", of(nil, in(api.Not, 1), in(api.Input)), "", sequence("1 0 X"), "10X", api.OK},
		{"nothing", api.Circuit{}, "", make([][]api.Value, 2), "", api.OK},
		{"nothing, no cycles", api.Circuit{}, "", nil, "", api.ErrArg},
		{"no cycles", example(), "0", nil, "", api.ErrArg},
		{"no cycles", example(), "00?", [][]api.Value{}, "", api.ErrArg},
	} {
		p, e := expectPattern(t, x.name, x.c, values(x.state), x.in)
		if got := logic.Text(p.In...); e != x.wantError || got != x.want {
			t.Errorf("%s: %s, not %s, error %d", x.name, got, x.want, e)
		}
	}
}

// TestPatternErrors has states and inputs of other lengths and with other values, alone and together: ErrWidth comes first wherever it is.
func TestPatternErrors(t *testing.T) {
	for _, state := range []string{"01X", "XXX", "", "01", "0101", "01Z", "Z00", "0?0", "ZZ", "????"} {
		for _, first := range []string{"01Z", "", "01", "01X0", "?00", "0?Z", "00?", "??", "????"} {
			for _, last := range []string{"1ZX", "", "11", "ZZZZ", "?11", "11?", "?"} {
				want := api.OK
				texts := []string{state, first, last}
				switch {
				case slices.ContainsFunc(texts, func(s string) bool { return len(s) != 3 }):
					want = api.ErrWidth
				case strings.ContainsRune(state, 'Z') || slices.ContainsFunc(texts, func(s string) bool { return strings.ContainsRune(s, '?') }):
					want = api.ErrArg
				}
				for _, l := range [][][]api.Value{{values(first), values(last)}, {values("Z1X"), values(first), values("000"), values(last), values("XXX")}} {
					if _, e := expectPattern(t, "plain", plain(), values(state), l); e != want {
						t.Errorf("state %q, inputs %q and %q: error %d, not %d", state, first, last, e, want)
					}
				}
			}
		}
	}
}

// TestPatternValues has each value of a byte at each place.
func TestPatternValues(t *testing.T) {
	for i := range 256 {
		v := api.Value(i)
		for k := range 3 {
			state, l := values("01X"), sequence("01X Z10 110")
			state[k] = v
			want := api.OK
			if v > api.VX {
				want = api.ErrArg
			}
			if _, e := expectPattern(t, "state", plain(), state, l); e != want {
				t.Errorf("%d in the state: error %d, not %d", i, e, want)
			}
			for n := range l {
				changed := slices.Clone(l)
				changed[n] = slices.Clone(l[n])
				changed[n][k] = v
				want := api.OK
				if v > api.VZ {
					want = api.ErrArg
				}
				if _, e := expectPattern(t, "inputs", plain(), values("01X"), changed); e != want {
					t.Errorf("%d in cycle %d: error %d, not %d", i, n, e, want)
				}
			}
		}
	}
}

// TestPatternLimits has expansions at the limits, with states and inputs that fit and with others.
func TestPatternLimits(t *testing.T) {
	r := random(21)
	for _, x := range limits() {
		if x.frames > 1025 {
			continue
		}
		name := strconv.Itoa(len(x.c.Nodes)) + " nodes, " + strconv.Itoa(x.frames) + " frames"
		dffs := count(x.c, api.Dff)
		if _, e := expectPattern(t, name, x.c, r.values(dffs, 3), r.sequence(x.c, x.frames, 4)); e != x.want {
			t.Errorf("%s: error %d, not %d", name, e, x.want)
		}
		want := x.want
		if want == api.OK {
			want = api.ErrWidth
		}
		for _, most := range []int{3, 6} {
			if _, e := expectPattern(t, name, x.c, r.values(dffs+1, most), r.sequence(x.c, x.frames, most)); e != want {
				t.Errorf("%s, a value of the state too many: error %d, not %d", name, e, want)
			}
		}
	}
	for _, n := range []int{1, 2, 1023, 1024, 1025, 3000} {
		for _, c := range []api.Circuit{{}, example(), of(nil, in(api.Dff, 0))} {
			want := api.OK
			if n > 1024 {
				want = api.ErrLimit
			}
			if _, e := expectPattern(t, "long", c, r.values(count(c, api.Dff), 3), r.sequence(c, n, 4)); e != want {
				t.Errorf("%d cycles: error %d, not %d", n, e, want)
			}
		}
		if _, e := expectPattern(t, "long", example(), values("??"), make([][]api.Value, n)); n > 1024 && e != api.ErrLimit || n <= 1024 && e != api.ErrWidth {
			t.Errorf("%d cycles with a wrong state: error %d", n, e)
		}
	}
}

// TestPatternRandom compares Pattern with its definition.
func TestPatternRandom(t *testing.T) {
	r := random(22)
	seen := map[api.Errno]int{}
	for i, c := range circuits(400, 20, 1) {
		for n := range 5 {
			dffs := count(c, api.Dff) + r.below(12)/11
			_, e := expectPattern(t, "circuit "+strconv.Itoa(i), c, r.values(dffs, 3+r.below(12)/11), r.sequence(c, n, 4+r.below(12)/11))
			seen[e]++
		}
	}
	if seen[api.OK] < 500 || seen[api.ErrWidth] < 50 || seen[api.ErrArg] < 100 || seen[api.ErrKind] < 300 {
		t.Errorf("%v", seen)
	}
}
