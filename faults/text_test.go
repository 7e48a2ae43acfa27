package faults_test

import (
	"math"
	"testing"

	"probecard/api"
	. "probecard/faults"
)

// P12.4, Text

// at returns the line of a pin.
func at(node, pin int) api.Line { return api.Line{Node: node, Pin: pin} }

func TestText(t *testing.T) {
	for _, x := range []struct {
		f    api.Fault
		want string
	}{
		{api.Fault{Line: at(12, -1), Value: 1}, "stuck 12 1"},
		{api.Fault{}, "stuck 0.0 0"},
		{api.Fault{Line: at(0, -1)}, "stuck 0 0"},
		{api.Fault{Line: at(3, 15), Value: 1}, "stuck 3.15 1"},
		{api.Fault{Model: api.Slow, Line: at(16383, 0)}, "slow 16383.0 0"},
		{api.Fault{Model: api.Slow, Line: at(100, -1), Value: 1}, "slow 100 1"},
		{api.Fault{Model: api.Wired, Line: at(2, -1), Other: 7}, "wired 2 7 0"},
		{api.Fault{Model: api.Wired, Line: at(20, -1), Other: 300, Value: 1}, "wired 20 300 1"},
		{api.Fault{Model: api.Strong, Line: at(7, -1), Other: 2}, "strong 7 2"},
		{api.Fault{Model: api.Strong, Line: at(10, -1), Other: 0}, "strong 10 0"},
	} {
		if s := Text(x.f); s != x.want {
			t.Errorf("Text returns %q for %+v, not %q", s, x.f, x.want)
		}
	}
}

// TestTextInvalid has faults that no circuit has: the fields that are not part of the text do not matter.
func TestTextInvalid(t *testing.T) {
	for _, x := range []struct {
		f    api.Fault
		want string
	}{
		{api.Fault{Line: at(-3, -2), Value: 3}, "stuck -3.-2 3"},
		{api.Fault{Line: at(-1, -1), Value: 255}, "stuck -1 255"},
		{api.Fault{Line: at(1, -1), Other: 5}, "stuck 1 0"},
		{api.Fault{Model: api.Slow, Line: at(1000000000, 1234567890), Value: 2, Other: -1}, "slow 1000000000.1234567890 2"},
		{api.Fault{Model: api.Slow, Line: at(math.MaxInt, math.MinInt), Value: 128}, "slow 9223372036854775807.-9223372036854775808 128"},
		{api.Fault{Model: api.Slow, Line: at(math.MinInt, -1), Value: 10}, "slow -9223372036854775808 10"},
		{api.Fault{Model: api.Wired, Line: at(-4, 3), Other: -5, Value: 2}, "wired -4 -5 2"},
		{api.Fault{Model: api.Wired, Line: at(4, -2), Other: 4, Value: 99}, "wired 4 4 99"},
		{api.Fault{Model: api.Wired, Line: at(9, 0), Other: 1}, "wired 9 1 0"},
		{api.Fault{Model: api.Wired, Line: at(math.MinInt, 0), Other: math.MaxInt, Value: 1}, "wired -9223372036854775808 9223372036854775807 1"},
		{api.Fault{Model: api.Strong, Line: at(4, 1), Other: 4, Value: 1}, "strong 4 4"},
		{api.Fault{Model: api.Strong, Line: at(-4, -9), Other: -1, Value: 255}, "strong -4 -1"},
		{api.Fault{Model: api.Strong, Line: at(math.MaxInt, -1), Other: math.MinInt}, "strong 9223372036854775807 -9223372036854775808"},
		{api.Fault{Model: 4}, ""},
		{api.Fault{Model: 4, Line: at(1, -1), Value: 1, Other: 2}, ""},
		{api.Fault{Model: 5, Line: at(-1, 3)}, ""},
		{api.Fault{Model: 128}, ""},
		{api.Fault{Model: 255, Line: at(1, 1)}, ""},
	} {
		if s := Text(x.f); s != x.want {
			t.Errorf("Text returns %q for %+v, not %q", s, x.f, x.want)
		}
	}
}

// TestTextAny compares Text with the chapter's words for faults of all sorts.
func TestTextAny(t *testing.T) {
	numbers := []int{math.MinInt, -1 << 32, -1000000000, -10, -9, -2, -1, 0, 1, 9, 10, 99, 100, 16383, 999999999, 1000000000, 1 << 32, math.MaxInt}
	for _, f := range product(models(), numbers, numbers, numbers, []api.Value{0, 1, 2, 3, 10, 255}) {
		if s, want := Text(f), textOf(f); s != want {
			t.Errorf("Text returns %q for %+v, not %q", s, f, want)
		}
	}
	for m := 0; m < 256; m++ {
		for v := range 256 {
			f := api.Fault{Model: api.Model(m), Line: at(v, m), Value: api.Value(v), Other: m}
			if s, want := Text(f), textOf(f); s != want {
				t.Errorf("Text returns %q for %+v, not %q", s, f, want)
			}
		}
	}
}
