package faults_test

import (
	"slices"
	"testing"

	"probecard/api"
	. "probecard/faults"
)

// P12.5

// TestListsAscend checks that the lists of All are strictly ascending, contain only valid faults, and that Parse finds each fault in its text.
func TestListsAscend(t *testing.T) {
	counts := map[api.Model]int{}
	for i, c := range slices.Concat(circuits(150, 15), circuits(3, 80)) {
		for m := range api.Strong + 1 {
			l, e := All(c, m)
			if e != api.OK {
				t.Fatalf("circuit %d: error %d", i, e)
			}
			counts[m] += len(l)
			for k, f := range l {
				if k > 0 && Compare(l[k-1], f) != -1 {
					t.Errorf("circuit %d: %+v stands before %+v", i, l[k-1], f)
				}
				if e := Check(c, f); e != api.OK || f.Model != m {
					t.Errorf("circuit %d: the list of model %d contains %+v, which has error %d", i, m, f, e)
				}
				if g, e := Parse(Text(f)); g != f || e != api.OK {
					t.Errorf("circuit %d: Parse returns %+v and %d for %q", i, g, e, Text(f))
				}
			}
		}
	}
	for m := range api.Strong + 1 {
		if counts[m] < 1000 {
			t.Errorf("%d faults of model %d", counts[m], m)
		}
	}
}

// TestListsComplete checks that the lists of All contain every fault for which Check returns OK.
func TestListsComplete(t *testing.T) {
	for i, c := range circuits(60, 12) {
		nodes := around(0, min(len(c.Nodes), 12)-1)
		for m := range api.Strong + 1 {
			l, _ := All(c, m)
			for _, f := range product([]api.Model{m}, nodes, []int{-2, -1, 0, 1, 2, 3, 15, 16}, nodes, []api.Value{0, 1, 2}) {
				if _, found := slices.BinarySearchFunc(l, f, Compare); found != (Check(c, f) == api.OK) {
					t.Errorf("circuit %d: the list contains %+v: %t", i, f, found)
				}
			}
		}
	}
}

// TestListsCounts compares the numbers of faults with the number of lines, and those of bridges with each other.
func TestListsCounts(t *testing.T) {
	for i, c := range slices.Concat(circuits(300, 30), circuits(3, 150), []api.Circuit{wide(1000), chains(5000), inputs(200)}) {
		var counts [api.Strong + 1]int
		for m := range counts {
			l, e := All(c, api.Model(m))
			if counts[m] = len(l); e != api.OK {
				t.Errorf("circuit %d: error %d", i, e)
			}
		}
		l, e := Lines(c)
		if counts[api.Stuck] != 2*len(l) || counts[api.Slow] != 2*len(l) || e != api.OK {
			t.Errorf("circuit %d: %d and %d faults on %d lines", i, counts[api.Stuck], counts[api.Slow], len(l))
		}
		if counts[api.Wired] != counts[api.Strong] {
			t.Errorf("circuit %d: %d and %d bridges", i, counts[api.Wired], counts[api.Strong])
		}
	}
}
