package parallels_test

import (
	"strconv"
	"testing"

	"probecard/api"
	"probecard/faults"
	"probecard/inject"
	. "probecard/parallels"
)

// P15.4

// expectAgreement compares Faults, Patterns and Table with inject.Detects and with each other. It returns how many of the entries are true.
func expectAgreement(t *testing.T, name string, c api.Circuit, l []api.Fault, tests []api.Pattern) int {
	t.Helper()
	count := 0
	table, e := Table(c, l, tests)
	if e != api.OK || len(table) != len(l) {
		t.Fatalf("%s: %d rows for %d faults, error %d", name, len(table), len(l), e)
	}
	var columns [][]bool
	for _, p := range tests {
		found, e := Faults(c, l, p)
		if e != api.OK || len(found) != len(l) {
			t.Fatalf("%s: %d of %d faults, error %d", name, len(found), len(l), e)
		}
		columns = append(columns, found)
	}
	for i, f := range l {
		row, e := Patterns(c, f, tests)
		if e != api.OK || len(row) != len(tests) || len(table[i]) != (len(tests)+63)/64 {
			t.Fatalf("%s: %d of %d patterns, error %d, %d words", name, len(row), len(tests), e, len(table[i]))
		}
		for k, p := range tests {
			want, e := inject.Detects(c, f, p)
			if e != api.OK || row[k] != want || columns[k][i] != want || At(table, i, k) != want {
				t.Errorf("%s: %s, pattern %v: Detects %t with error %d, Faults %t, Patterns %t, Table %t", name, faults.Text(f), p, want, e, columns[k][i], row[k], At(table, i, k))
			}
			if want {
				count++
			}
		}
	}
	return count
}

// TestAgreement has random circuits with faults of the three models and patterns of known and unknown values.
func TestAgreement(t *testing.T) {
	r := random(160)
	found, entries := 0, 0
	for i, c := range circuits(400, 40) {
		l := r.faults(80, all(c, api.Stuck, api.Wired, api.Strong))
		n := r.below(8)
		if i%20 == 0 {
			n = 60 + r.below(80)
		}
		found += expectAgreement(t, "circuit "+strconv.Itoa(i), c, l, r.patterns(n, c, 2+2*api.Value(r.below(2))))
		entries += n * len(l)
	}
	if found < entries/50 || found > entries/2 {
		t.Errorf("%d of %d entries are true", found, entries)
	}
}

// TestAgreementSmall has all faults and all patterns of small circuits.
func TestAgreementSmall(t *testing.T) {
	for i, c := range small(100, 9, 3) {
		expectAgreement(t, "small circuit "+strconv.Itoa(i), c, all(c, api.Stuck, api.Wired, api.Strong), allPatterns(c, 4))
	}
}

// TestAgreementModels has lists of one model each, which hold all faults of the circuit.
func TestAgreementModels(t *testing.T) {
	r := random(161)
	for _, m := range []api.Model{api.Stuck, api.Wired, api.Strong} {
		found := 0
		for i, c := range circuits(60, 20) {
			found += expectAgreement(t, "model "+strconv.Itoa(int(m))+", circuit "+strconv.Itoa(i), c, all(c, m), r.patterns(10, c, 3))
		}
		if found < 500 {
			t.Errorf("model %d: %d entries are true", m, found)
		}
	}
}
