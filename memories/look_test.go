package memories_test

import (
	"slices"
	"strconv"
	"testing"

	"probecard/api"
	"probecard/logic"
	. "probecard/memories"
)

// P9.2

// digits returns the digits of i to a base, n of them, the last one first.
func digits(i, n, base int) []api.Value {
	l := make([]api.Value, n)
	for k := n - 1; k >= 0; k-- {
		l[k] = api.Value(i % base)
		i /= base
	}
	return l
}

// power returns base to the power of n.
func power(base, n int) int {
	out := 1
	for range n {
		out *= base
	}
	return out
}

func TestLookTable(t *testing.T) {
	for _, x := range []struct{ words, addr, want string }{
		{"00,01,10,11", "10", "01"}, {"00,01,10,11", "X0", "0X"}, {"00,01,10,11", "XX", "XX"}, // the example
		{"00,01,10,11", "00", "00"}, {"00,01,10,11", "01", "10"}, {"00,01,10,11", "11", "11"},
		{"00,01,10,11", "0X", "X0"}, {"00,01,10,11", "1X", "X1"}, {"00,01,10,11", "X1", "1X"},
		{"00,01,10,11", "Z0", "0X"}, {"00,01,10,11", "1Z", "X1"}, {"00,01,10,11", "ZZ", "XX"}, {"00,01,10,11", "XZ", "XX"},
		{"10,10", "X", "10"}, {"1X,1X", "X", "1X"}, {"X0,X0", "1", "X0"}, {"1X,10", "X", "1X"}, {"1X,10", "1", "10"}, // X and a known value
		{"1Z,1Z", "0", "1X"}, {"ZZ,11", "X", "XX"}, {"0Z,00", "X", "0X"}, // Z in words
		{"01,10", "", "01"}, {"X1", "", "X1"}, {"Z", "", "X"}, // an empty address is that of word 0
		{"10,11,01,00", "0", "10"}, {"10,11,01,00", "1", "11"}, {"10,11,01,00", "X", "1X"}, // a short one reaches only the first words
		{"10", "0", "10"}, {"10", "1", "XX"}, {"10", "X", "10"}, // an index that no word has
		{"10,01", "00", "10"}, {"10,01", "01", "XX"}, {"10,01", "0X", "10"}, {"10,01", "1X", "01"}, {"10,11", "XX", "1X"}, {"10,01", "X1", "XX"},
		{"0,1,0", "11", "X"}, {"0,1,0", "X1", "0"}, {"0,1,0", "01", "0"}, {"0,1,0", "XX", "X"}, {"1,1,1", "XX", "1"},
		{"01,0", "1", "0X"}, {"01,0", "X", "0X"}, {"01,", "1", "XX"}, {"01,", "X", "XX"}, // a shorter word
		{"0,01", "1", "0"}, {"0,01", "X", "0"}, {"1,01", "X", "X"}, {"0,01110", "1", "0"}, // a longer one
		{",01", "1", ""}, {",01", "0", ""}, {",", "X", ""}, {"", "", ""}, {"", "1", ""}, // words without bits
	} {
		l, addr := words(x.words), values(x.addr)
		if got := logic.Text(Look(l, addr)...); got != x.want {
			t.Errorf("Look(%s; %s) is %s, not %s", x.words, x.addr, got, x.want)
		}
	}
}

// TestLookNone has no words, with any address.
func TestLookNone(t *testing.T) {
	for _, none := range [][][]api.Value{nil, {}} {
		for _, addr := range [][]api.Value{nil, {}, values("0"), values("1X"), values("Z"), {9}, make([]api.Value, 100)} {
			if l := Look(none, addr); len(l) != 0 {
				t.Errorf("Look without words at %v is %v", addr, l)
			}
		}
	}
}

// TestLookStrange has values above VZ, which count as X.
func TestLookStrange(t *testing.T) {
	for _, v := range []api.Value{4, 5, 128, 129, 254, 255} {
		l := [][]api.Value{{0, 1, v, v}, {0, 0, v, 1}}
		for _, x := range []struct {
			addr []api.Value
			want string
		}{{values("0"), "01XX"}, {values("1"), "00X1"}, {[]api.Value{v}, "0XXX"}, {[]api.Value{0, v}, "01XX"}, {[]api.Value{v, 1}, "XXXX"}} {
			if got := logic.Text(Look(l, x.addr)...); got != x.want {
				t.Errorf("Look at %v with the value %d is %s, not %s", x.addr, v, got, x.want)
			}
		}
	}
}

// TestLookAll has words that tell their indices, and all addresses of up to six elements.
func TestLookAll(t *testing.T) {
	for n := range 12 {
		var l [][]api.Value
		for i := range n {
			one := slicesOf(0, n)
			one[i] = 1
			l = append(l, append(one, digits(i, 4, 2)...))
		}
		for bits := range 6 {
			for k := range power(4, bits) {
				addr := digits(k, bits, 4)
				if got, want := Look(l, addr), lookAt(l, addr); !slices.Equal(got, want) {
					t.Errorf("Look(%s; %s) is %s, not %s", text(l), logic.Text(addr...), logic.Text(got...), logic.Text(want...))
				}
			}
		}
	}
}

// TestLookLong has addresses of many elements, of which no index has a bit of its own.
func TestLookLong(t *testing.T) {
	l := words("0001,0010,0100,1000,0001")
	for _, n := range []int{3, 4, 31, 32, 33, 62, 63, 64, 65, 127, 128, 129, 256, 5000} {
		for i, want := range []string{"0001", "0010", "0100", "1000", "0001", "XXXX"} {
			addr := slicesOf(0, n)
			copy(addr, []api.Value{api.Value(i & 1), api.Value(i >> 1 & 1), api.Value(i >> 2)})
			if got := logic.Text(Look(l, addr)...); got != want {
				t.Errorf("%d elements: word %d is %s, not %s", n, i, got, want)
			}
			for _, k := range []int{3, n / 2, n - 1} {
				if k < 3 || k >= n {
					continue
				}
				for _, v := range []api.Value{api.VX, api.VZ, 9} { // as other words do not exist, nothing changes
					addr[k] = v
					if got := logic.Text(Look(l, addr)...); got != want {
						t.Errorf("%d elements, %d at %d: word %d is %s, not %s", n, v, k, i, got, want)
					}
				}
				addr[k] = 1
				if got := logic.Text(Look(l, addr)...); got != "XXXX" {
					t.Errorf("%d elements, 1 at %d: word %d is %s, not X", n, k, i, got)
				}
				addr[k] = 0
			}
		}
	}
}

// TestLookRandom compares Look with its definition for words of any lengths, and any values.
func TestLookRandom(t *testing.T) {
	r := random(7)
	known, unknown := 0, 0
	for i := range 20000 {
		l, addr := r.words(2+r.below(4)), r.values(r.below(6), 2+r.below(4))
		got, want := Look(l, addr), lookAt(l, addr)
		if !slices.Equal(got, want) {
			t.Errorf("%d: Look(%v; %v) is %v, not %v", i, l, addr, got, want)
		}
		for _, v := range got {
			if v <= 1 {
				known++
			} else {
				unknown++
			}
		}
	}
	if known < 3000 || unknown < 3000 {
		t.Errorf("%d known bits, %d unknown ones", known, unknown)
	}
}

// TestLookMany has many words, more than a memory may have.
func TestLookMany(t *testing.T) {
	var l [][]api.Value
	for i := range 5000 {
		l = append(l, digits(i, 13, 2))
	}
	for i := range 8192 {
		addr := digits(i, 13, 2)
		want := logic.Text(addr...)
		slices.Reverse(addr)
		if i >= 5000 {
			want = logic.Text(slicesOf(api.VX, 13)...)
		}
		if got := logic.Text(Look(l, addr)...); got != want {
			t.Fatalf("word %s is %s, not %s", strconv.Itoa(i), got, want)
		}
	}
}
