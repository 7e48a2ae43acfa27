package parallels_test

import (
	"math"
	"slices"
	"strconv"
	"testing"

	"probecard/api"
	. "probecard/parallels"
)

// P15.3

// expectTable expects a detection table.
func expectTable(t *testing.T, name string, c api.Circuit, l []api.Fault, tests []api.Pattern, want [][]uint64) {
	t.Helper()
	got, e := Table(c, l, tests)
	if e != api.OK || !slices.EqualFunc(got, want, slices.Equal) {
		t.Errorf("%s, %d faults, %d tests: error %d, %x, not %x", name, len(l), len(tests), e, got, want)
	}
}

// TestTableExample has the chapter's example, and other tests of its circuit.
func TestTableExample(t *testing.T) {
	c, l := example(), list("0 0, 0 1, 2 1")
	expectTable(t, "example", c, l, patterns("11, 01, 00"), [][]uint64{{1}, {2}, {6}})
	expectTable(t, "example", c, l, patterns("00, 11"), [][]uint64{{2}, {0}, {1}})
	expectTable(t, "example", c, l, patterns("XX, X0, 0X, 11, ZZ, 01, 10"), [][]uint64{{8}, {32}, {102}})
	expectTable(t, "example", c, list("2 1, 2 1, 0 0, 2 1"), patterns("00, 11, 01, 11"), [][]uint64{{5}, {5}, {10}, {5}})
	expectTable(t, "example", c, list("wired 0 1 0, wired 0 1 1, strong 0 1, strong 1 0, 2.1 1"), patterns("00, 01, 10, 11"), [][]uint64{{0}, {6}, {2}, {4}, {4}})
}

// TestTableEmpty has lists without faults and without tests: there is a row for each fault, also without words.
func TestTableEmpty(t *testing.T) {
	for _, c := range circuits(20, 20) {
		l := all(c, api.Stuck, api.Wired, api.Strong)
		r := random(156)
		expectTable(t, "no tests", c, l, nil, make([][]uint64, len(l)))
		for _, n := range counts() {
			expectTable(t, "no faults", c, nil, r.patterns(n, c, 4), nil)
			if len(l) > 0 {
				expectTable(t, "no tests", c, r.faults(n, l), []api.Pattern{}, make([][]uint64, n))
			}
		}
	}
	expectTable(t, "nothing", api.Circuit{}, nil, nil, nil)
	expectTable(t, "nothing", api.Circuit{}, []api.Fault{}, make([]api.Pattern, 65), [][]uint64{})
}

// TestTableWords has a fault that every pattern detects, and one that none does: all bits of tests are 1 or 0, and all other bits are 0.
func TestTableWords(t *testing.T) {
	c := read("o = ONE(); OUTPUT(o)")
	const full = math.MaxUint64
	for n, want := range map[int][]uint64{
		0: {}, 1: {1}, 2: {3}, 3: {7}, 32: {1<<32 - 1}, 63: {full >> 1}, 64: {full}, 65: {full, 1}, 66: {full, 3}, 127: {full, full >> 1}, 128: {full, full}, 129: {full, full, 1}, 192: {full, full, full}, 200: {full, full, full, 255},
	} {
		expectTable(t, "a constant", c, list("0 0, 0 1, 0 0"), make([]api.Pattern, n), [][]uint64{want, make([]uint64, len(want)), want})
	}
	many := slices.Repeat([]uint64{full}, api.MaxTests/64)
	expectTable(t, "a constant", c, list("0 0, 0 1"), make([]api.Pattern, api.MaxTests), [][]uint64{many, make([]uint64, len(many))})
	many[len(many)-1] = full >> 1
	expectTable(t, "a constant", c, list("0 1, 0 0"), make([]api.Pattern, api.MaxTests-1), [][]uint64{make([]uint64, len(many)), many})
}

// TestTableAlone has one test that detects a fault at each place: its bit is the only one.
func TestTableAlone(t *testing.T) {
	for n := range 200 {
		l := slices.Repeat(patterns("01"), 200)
		l[n] = patternOf("11")
		want := make([]uint64, 4)
		want[n/64] = 1 << (n % 64)
		expectTable(t, "alone", example(), list("0 0, 2 0, 2.1 1"), l, [][]uint64{want, want, make([]uint64, 4)})
	}
}

// TestTableCounts has all numbers of faults and of tests around those of whole words.
func TestTableCounts(t *testing.T) {
	r := random(157)
	for _, c := range []api.Circuit{read(sheet), r.circuit(9)} {
		l := all(c, api.Stuck, api.Wired, api.Strong)
		for _, n := range counts() {
			for _, m := range counts() {
				some, tests := r.faults(min(m, 200), l), r.patterns(min(n, 200), c, 4)
				expectTable(t, "counts", c, some, tests, tableOf(c, some, tests))
			}
		}
	}
}

// TestTableRandom has random circuits with all their faults, and random tests.
func TestTableRandom(t *testing.T) {
	r := random(158)
	ones := 0
	for i, c := range circuits(150, 30) {
		l, tests := r.faults(100, all(c, api.Stuck, api.Wired, api.Strong)), r.patterns(r.below(140), c, 2+2*api.Value(r.below(2)))
		want := tableOf(c, l, tests)
		expectTable(t, "circuit "+strconv.Itoa(i), c, l, tests, want)
		for _, row := range want {
			for _, word := range row {
				if word != 0 {
					ones++
				}
			}
		}
	}
	if ones < 5000 {
		t.Errorf("%d words that are not 0", ones)
	}
}

// TestTableLimits has as many faults as there may be, and as many tests.
func TestTableLimits(t *testing.T) {
	c := example()
	rows := [][]uint64{{1}, {2}, {6}, {14}}
	expectTable(t, "many faults", c, slices.Repeat(list("0 0, 0 1, 2.0 1, 2 1"), api.MaxFaults/4), patterns("11, 01"), slices.Repeat([][]uint64{{1}, {2}, {2}, {2}}, api.MaxFaults/4))
	expectTable(t, "few tests", c, list("0 0, 0 1"), patterns("11, 01, 00"), rows[:2])
	tests := slices.Repeat(patterns("11, 01, 00, 10"), api.MaxTests/4)
	var want [][]uint64
	for _, nibble := range []uint64{1, 2, 14} {
		word := nibble * 0x1111111111111111
		want = append(want, slices.Repeat([]uint64{word}, api.MaxTests/64))
	}
	expectTable(t, "many tests", c, list("0 0, 0 1, 2 1"), tests, want)
}
