package faults_test

import (
	"math"
	"slices"
	"testing"

	"probecard/api"
	. "probecard/faults"
)

// P12.3

// expectCompare compares two faults in both orders, and each with itself.
func expectCompare(t *testing.T, a, b api.Fault, want int) {
	t.Helper()
	if got := Compare(a, b); got != want {
		t.Errorf("Compare returns %d for %+v and %+v, not %d", got, a, b, want)
	}
	if got := Compare(b, a); got != -want {
		t.Errorf("Compare returns %d for %+v and %+v, not %d", got, b, a, -want)
	}
	for _, f := range []api.Fault{a, b} {
		if got := Compare(f, f); got != 0 {
			t.Errorf("Compare returns %d for %+v and itself", got, f)
		}
	}
}

// TestCompareOneField has faults that differ in one field, whatever the others are.
func TestCompareOneField(t *testing.T) {
	numbers := []int{math.MinInt, math.MinInt + 1, -1 << 32, -2, -1, 0, 1, 2, 9, 10, 1 << 31, 1 << 32, math.MaxInt - 1, math.MaxInt}
	values := []api.Value{api.V0, api.V1, api.VX, api.VZ, 4, 127, 128, 254, 255}
	for _, base := range []api.Fault{{}, parsed("slow 3.1 1"), parsed("wired 3 7 0"), parsed("strong 8 1"), {Model: 200, Line: api.Line{Node: -5, Pin: -7}, Value: 9, Other: -1}} {
		for i, low := range numbers {
			for _, high := range numbers[i+1:] {
				a, b := base, base
				a.Line.Node, b.Line.Node = low, high
				expectCompare(t, a, b, -1)
				a, b = base, base
				a.Line.Pin, b.Line.Pin = low, high
				expectCompare(t, a, b, -1)
				a, b = base, base
				a.Other, b.Other = low, high
				expectCompare(t, a, b, -1)
			}
		}
		for i, low := range values {
			for _, high := range values[i+1:] {
				a, b := base, base
				a.Value, b.Value = low, high
				expectCompare(t, a, b, -1)
				a, b = base, base
				a.Model, b.Model = api.Model(low), api.Model(high)
				expectCompare(t, a, b, -1)
			}
		}
	}
}

// TestCompareFields has faults of which an earlier field decides although the later ones are in the other order.
func TestCompareFields(t *testing.T) {
	of := func(m api.Model, node, pin, other int, v api.Value) api.Fault {
		return api.Fault{Model: m, Line: api.Line{Node: node, Pin: pin}, Value: v, Other: other}
	}
	for _, x := range [][2]api.Fault{
		{of(0, 9, 9, 9, 9), of(1, 0, 0, 0, 0)},
		{of(3, 9, 9, 9, 9), of(4, -9, -9, -9, 0)},
		{of(2, 1, 9, 9, 9), of(2, 2, 0, 0, 0)},
		{of(2, -1, 9, 9, 9), of(2, 0, -9, -9, 0)},
		{of(1, 5, -1, 9, 9), of(1, 5, 0, 0, 0)},
		{of(1, 5, -2, 9, 9), of(1, 5, -1, 0, 0)},
		{of(3, 5, -1, 1, 9), of(3, 5, -1, 2, 0)},
		{of(3, 5, -1, -1, 255), of(3, 5, -1, 0, 0)},
		{of(2, 5, -1, 1, 0), of(2, 5, -1, 1, 1)},
		{of(255, 5, 5, 5, 254), of(255, 5, 5, 5, 255)},
	} {
		expectCompare(t, x[0], x[1], -1)
	}
}

// TestCompareAll compares all pairs of faults with few numbers, and sorts them.
func TestCompareAll(t *testing.T) {
	l := product([]api.Model{0, 1, 3, 200}, []int{-1, 0, 7}, []int{-1, 0, 2}, []int{-3, 0, 5}, []api.Value{0, 1, 200})
	for _, a := range l {
		for _, b := range l {
			if got, want := Compare(a, b), compareOf(a, b); got != want {
				t.Errorf("Compare returns %d for %+v and %+v, not %d", got, a, b, want)
			}
		}
	}
	r := random(123)
	var mixed []api.Fault
	for _, i := range r.permutation(len(l)) {
		mixed = append(mixed, l[i], l[i])
	}
	slices.SortFunc(mixed, Compare)
	slices.SortFunc(l, compareOf)
	if !slices.Equal(slices.Compact(mixed), l) {
		t.Error("faults that Compare sorts are in another order")
	}
}
