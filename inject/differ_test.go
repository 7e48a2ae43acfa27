package inject_test

import (
	"math"
	"slices"
	"testing"

	"probecard/api"
	. "probecard/inject"
)

// P13.3

// expectDiffer expects the positions in Out, Next and both, whichever of the responses is the first.
func expectDiffer(t *testing.T, a, b []api.Value, want []int) {
	t.Helper()
	for range 2 {
		for _, x := range []struct {
			good, bad   api.Response
			outs, nexts []int
		}{
			{api.Response{Out: a}, api.Response{Out: b}, want, nil},
			{api.Response{Next: a}, api.Response{Next: b}, nil, want},
			{api.Response{Out: a, Next: a}, api.Response{Out: b, Next: b}, want, want},
			{api.Response{Out: a, Next: b}, api.Response{Out: b, Next: a}, want, want},
			{api.Response{Out: a, Next: a}, api.Response{Out: b, Next: a}, want, nil},
			{api.Response{Out: a, Next: b}, api.Response{}, nil, nil},
			{api.Response{Out: a}, api.Response{Next: b}, nil, nil},
		} {
			outs, nexts := Differ(x.good, x.bad)
			if !slices.Equal(outs, x.outs) || !slices.Equal(nexts, x.nexts) {
				t.Errorf("Differ returns %v and %v for %v and %v, not %v and %v", outs, nexts, x.good, x.bad, x.outs, x.nexts)
			}
		}
		a, b = b, a
	}
}

func TestDiffer(t *testing.T) {
	for _, x := range []struct {
		a, b string
		want []int
	}{
		{"", "", nil},
		{"", "01XZ", nil},
		{"0", "0", nil}, {"0", "1", []int{0}}, {"1", "1", nil}, {"X", "0", nil}, {"X", "1", nil}, {"Z", "0", nil}, {"Z", "1", nil}, {"X", "Z", nil}, {"X", "X", nil}, {"Z", "Z", nil},
		{"0011XXZZ", "01010101", []int{1, 2}},
		{"0000", "1111", []int{0, 1, 2, 3}},
		{"01", "10X1", []int{0, 1}},
		{"0X", "111", []int{0}},
		{"XX0", "111", []int{2}},
		{"1", "0000", []int{0}},
		{"X", "0000", nil},
		{"10101010101", "01010101010", []int{0, 1, 2, 3, 4, 5, 6, 7, 8, 9, 10}},
	} {
		expectDiffer(t, values(x.a), values(x.b), x.want)
	}
}

// TestDifferBytes has all pairs of values of a byte.
func TestDifferBytes(t *testing.T) {
	for a := range 256 {
		for b := range 256 {
			x, y := []api.Value{api.Value(a)}, []api.Value{api.Value(b)}
			var want []int
			if a+b == 1 { // one of them is 0, and the other is 1
				want = []int{0}
			}
			if outs, nexts := Differ(api.Response{Out: x, Next: y}, api.Response{Out: y, Next: x}); !slices.Equal(outs, want) || !slices.Equal(nexts, want) {
				t.Errorf("Differ returns %v and %v for %d and %d", outs, nexts, a, b)
			}
		}
	}
}

// TestDifferLists has all lists of up to four values, of equal and of different lengths.
func TestDifferLists(t *testing.T) {
	toValues := func(l []int) []api.Value {
		var out []api.Value
		for _, v := range l {
			out = append(out, api.Value(v))
		}
		return out
	}
	for n := range 5 {
		for m := range 5 {
			if n+m > 6 {
				continue
			}
			eachList(n+m, 4, func(l []int) {
				a, b := toValues(l[:n]), toValues(l[n:])
				outs, nexts := Differ(api.Response{Out: a, Next: b}, api.Response{Out: b, Next: a})
				if want := differOf(a, b); !slices.Equal(outs, want) || !slices.Equal(nexts, want) {
					t.Errorf("Differ returns %v and %v for %v and %v, not %v", outs, nexts, a, b, want)
				}
			})
		}
	}
}

// TestDifferRandom has long lists, also of values above VZ, and lists in Out and Next that have nothing to do with each other.
func TestDifferRandom(t *testing.T) {
	r := random(135)
	response := func() api.Response {
		limit := api.Value(2 + r.below(5))
		return api.Response{Out: r.values(r.below(300), limit), Next: r.values(r.below(300), limit)}
	}
	for range 2000 {
		a, b := response(), response()
		outs, nexts := Differ(a, b)
		if !slices.Equal(outs, differOf(a.Out, b.Out)) || !slices.Equal(nexts, differOf(a.Next, b.Next)) {
			t.Errorf("Differ returns %v and %v for %v and %v", outs, nexts, a, b)
		}
	}
}

// TestDifferLong has lists that are longer than those of any circuit.
func TestDifferLong(t *testing.T) {
	long := make([]api.Value, math.MaxUint16*4)
	other := slices.Clone(long)
	other[0], other[70000], other[len(other)-1] = api.V1, api.V1, api.V1
	outs, nexts := Differ(api.Response{Out: long, Next: other}, api.Response{Out: other, Next: long[:70001]})
	if !slices.Equal(outs, []int{0, 70000, len(other) - 1}) || !slices.Equal(nexts, []int{0, 70000}) {
		t.Errorf("%v and %v", outs, nexts)
	}
}
