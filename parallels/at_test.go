package parallels_test

import (
	"math"
	"testing"

	"probecard/api"
	. "probecard/parallels"
)

// At of P15.3.

// atOf returns the entry of a table by the chapter's words.
func atOf(table [][]uint64, fault, test int) bool {
	for i, row := range table {
		for k, word := range row {
			for bit := range 64 {
				if i == fault && 64*k+bit == test {
					return word&(1<<bit) != 0
				}
			}
		}
	}
	return false
}

// indices returns indices before, within and behind tables, in ascending order.
func indices() []int {
	l := []int{math.MinInt, math.MinInt + 1, math.MinInt + 63, math.MinInt32, -1 << 32, -1 << 16, -129, -128, -65, -64, -63}
	for i := -5; i < 270; i++ {
		l = append(l, i)
	}
	return append(l, 511, 512, 1<<16, math.MaxInt32, 1<<32, 1<<32+1, 1<<38, math.MaxInt-64, math.MaxInt-63, math.MaxInt-1, math.MaxInt)
}

// TestAtExample has the table of the chapter's example.
func TestAtExample(t *testing.T) {
	table := [][]uint64{{1}, {2}, {6}}
	for fault, row := range []string{"100", "010", "011"} {
		for test, want := range row {
			if At(table, fault, test) != (want == '1') {
				t.Errorf("%d, %d: %t", fault, test, want != '1')
			}
		}
	}
}

// TestAtBits has tables in which one bit is 1, or all but one: every index of it and around it.
func TestAtBits(t *testing.T) {
	for row := range 3 {
		for bit := range 192 {
			table := [][]uint64{make([]uint64, 3), make([]uint64, 3), make([]uint64, 3)}
			table[row][bit/64] = 1 << (bit % 64)
			for i := range 4 {
				for k := -70; k < 260; k++ {
					if At(table, i, k) != (i == row && k == bit) {
						t.Errorf("bit %d of row %d: %d, %d is %t", bit, row, i, k, At(table, i, k))
					}
				}
			}
			table[row][bit/64] = ^table[row][bit/64]
			for k := range 192 {
				if At(table, row, k) != (k/64 == bit/64 && k != bit) {
					t.Errorf("all but bit %d of row %d: %d is %t", bit, row, k, At(table, row, k))
				}
			}
		}
	}
}

// TestAtIndices has all indices below 0, within, and behind the rows, words and bits of tables whose rows have different lengths, and of tables without rows or words.
func TestAtIndices(t *testing.T) {
	const full = math.MaxUint64
	for _, table := range [][][]uint64{
		nil, {}, {nil}, {{}}, {nil, {}, nil},
		{{full}}, {{full, full}}, {{0}},
		{{full}, {full, full, full}, {}, {full, full}, nil, {0, full}},
		{nil, {1 << 63, 1, 0, 1<<63 | 1}},
		make([][]uint64, 1000),
	} {
		for _, fault := range indices() {
			for _, test := range indices() {
				if got, want := At(table, fault, test), atOf(table[:min(len(table), 10)], fault, test); got != want {
					t.Errorf("%x: %d, %d is %t", table[:min(len(table), 10)], fault, test, got)
				}
			}
		}
	}
}

// TestAtTable has tables of Table: At knows what the tests detect, and no more.
func TestAtTable(t *testing.T) {
	r := random(159)
	for _, c := range circuits(60, 20) {
		l := r.faults(1+r.below(10), all(c, api.Stuck, api.Wired, api.Strong))
		tests := r.patterns(r.below(140), c, 4)
		table, e := Table(c, l, tests)
		if e != api.OK {
			t.Errorf("error %d", e)
		}
		rows := detections(c, l, tests)
		for i := -2; i < len(l)+3; i++ {
			for k := -2; k < len(tests)+70; k++ {
				want := i >= 0 && i < len(l) && k >= 0 && k < len(tests) && rows[k][i]
				if At(table, i, k) != want {
					t.Errorf("%d, %d of %d, %d: %t", i, k, len(l), len(tests), !want)
				}
			}
		}
	}
}
