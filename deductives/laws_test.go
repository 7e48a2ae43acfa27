package deductives_test

import (
	"slices"
	"strconv"
	"testing"

	"probecard/api"
	. "probecard/deductives"
	"probecard/faults"
	"probecard/inject"
	"probecard/parallels"
	"probecard/sims"
)

// P16.3

// expectAgreement compares Lists with inject.Run, and Detected with inject.Detects and parallels.Faults. It returns the numbers of entries and of detected faults.
func expectAgreement(t *testing.T, name string, c api.Circuit, l []api.Fault, p api.Pattern) (entries, hits int) {
	t.Helper()
	_, good, e := sims.Run(c, p)
	lists, f := Lists(c, l, p)
	found, g := Detected(c, l, p)
	marks, h := parallels.Faults(c, l, p)
	if e != api.OK || f != api.OK || g != api.OK || h != api.OK || len(lists) != len(good) || len(marks) != len(l) {
		t.Fatalf("%s: errors %d, %d, %d, %d, %d lists, %d marks", name, e, f, g, h, len(lists), len(marks))
	}
	for i, f := range l {
		_, bad, e := inject.Run(c, f, p)
		is, g := inject.Detects(c, f, p)
		if e != api.OK || g != api.OK || len(bad) != len(good) {
			t.Fatalf("%s: %s: errors %d and %d, %d nets", name, faults.Text(f), e, g, len(bad))
		}
		for net := range good {
			if in := slices.Contains(lists[net], i); in != (bad[net] != good[net]) {
				t.Errorf("%s, %v: fault %d, %s, is in the list of net %d: %t", name, p, i, faults.Text(f), net, in)
			}
		}
		if in := slices.Contains(found, i); in != is || marks[i] != is {
			t.Errorf("%s, %v: fault %d, %s: Detected %t, Detects %t, Faults %t", name, p, i, faults.Text(f), in, is, marks[i])
		}
	}
	return len(slices.Concat(lists...)), len(found)
}

// TestAgreement has random circuits with some of their faults, and random patterns.
func TestAgreement(t *testing.T) {
	r := random(177)
	entries, hits := 0, 0
	for i, c := range circuits(400, 40) {
		for range 2 {
			n, k := expectAgreement(t, "circuit "+strconv.Itoa(i), c, r.faults(r.below(80), all(c, api.Stuck)), r.full(c))
			entries, hits = entries+n, hits+k
		}
	}
	if entries < 20000 || hits < 4000 {
		t.Errorf("%d entries, %d detected faults", entries, hits)
	}
}

// TestAgreementSmall has all stuck faults and all full patterns of small circuits.
func TestAgreementSmall(t *testing.T) {
	for i, c := range small(150, 10, 4) {
		for _, p := range allPatterns(c) {
			expectAgreement(t, "small circuit "+strconv.Itoa(i), c, all(c, api.Stuck), p)
		}
	}
}

// TestAgreementLarge has circuits of hundreds of nodes.
func TestAgreementLarge(t *testing.T) {
	r := random(178)
	for i := range 4 {
		c := r.circuit(300 + r.below(300))
		expectAgreement(t, "large circuit "+strconv.Itoa(i), c, r.faults(200, all(c, api.Stuck)), r.full(c))
	}
}
