package memories_test

import (
	"testing"

	"probecard/api"
	"probecard/logic"
	. "probecard/memories"
)

// P9.3

func TestStoreTable(t *testing.T) {
	const four = "00,01,10,11"
	for _, x := range []struct{ words, addr, data, enable, want string }{
		{four, "1X", "11", "1", "00,X1,10,11"}, {four, "10", "11", "1", "00,11,10,11"}, {four, "10", "11", "X", "00,X1,10,11"}, // the example
		{four, "00", "11", "1", "11,01,10,11"}, {four, "01", "01", "1", "00,01,01,11"}, {four, "11", "00", "1", "00,01,10,00"},
		{four, "00", "11", "0", four}, {four, "XX", "01", "0", four}, {four, "ZZ", "XZ", "0", four}, // enable 0
		{four, "10", "11", "Z", "00,X1,10,11"}, {four, "10", "01", "X", four}, {four, "XX", "01", "X", "0X,01,XX,X1"}, {four, "ZZ", "01", "Z", "0X,01,XX,X1"}, // enable X and Z
		{four, "XX", "01", "1", "0X,01,XX,X1"}, {four, "X0", "10", "1", "X0,XX,10,11"}, {four, "0Z", "10", "1", "X0,01,10,11"}, {four, "Z1", "10", "1", "00,01,10,1X"},
		{"XX,00", "0", "10", "1", "10,00"}, {"XX,00", "X", "10", "1", "XX,X0"}, {"XX,00", "0", "10", "X", "XX,00"}, // X in words
		{"00,11", "0", "XX", "1", "XX,11"}, {"00,11", "X", "XX", "1", "XX,XX"}, {"00,11", "1", "X1", "X", "00,X1"}, {"XX,XX", "X", "XX", "1", "XX,XX"}, // X in data
		{"00,00", "1", "1Z", "1", "00,1X"}, {"00,00", "X", "0Z", "1", "0X,0X"}, {"00,00", "1", "ZZ", "0", "00,00"}, {"11,11", "1", "Z1", "X", "11,X1"}, // Z in data
		{"00,00", "1", "1", "1", "00,1X"}, {"00,00", "1", "", "1", "00,XX"}, {"00,00", "X", "0", "1", "0X,0X"}, {"00,00", "1", "0", "X", "00,0X"}, // data bits that are missing
		{"00,00", "1", "110", "1", "00,11"}, {"00,00", "X", "010", "1", "0X,0X"}, {"0,0", "0", "1X1", "1", "1,0"}, // data bits too many
		{"0Z,ZZ", "1", "11", "0", "0X,XX"}, {"0Z,ZZ", "1", "11", "1", "0X,11"}, {"Z1,1Z", "X", "11", "1", "X1,1X"}, // Z in words
		{"00,11", "", "01", "1", "01,11"}, {"00,11", "", "01", "X", "0X,11"}, {"00,11", "", "01", "0", "00,11"}, // an empty address is known
		{four, "1", "10", "1", "00,10,10,11"}, {four, "X", "10", "1", "X0,XX,10,11"}, // a short one reaches only the first words
		{"00,00,00", "01", "11", "1", "00,00,11"}, {"00,00,00", "11", "11", "1", "00,00,00"}, {"00,00,00", "X1", "11", "1", "00,00,XX"}, // an index that no word has
		{"00,00", "01", "11", "1", "00,00"}, {"00,00", "0X", "11", "1", "XX,00"}, {"00,00", "000", "11", "1", "11,00"}, {"00,00", "0001", "11", "1", "00,00"},
		{"00,0", "1", "11", "1", "00,1"}, {"0,000", "1", "11", "1", "0,11X"}, {"00,0", "X", "01", "1", "0X,0"}, {"1,00", "0", "01", "1", "0,00"}, // words of other lengths
		{",01", "0", "11", "1", ",01"}, {",01", "X", "11", "1", ",X1"}, {",", "1", "1", "1", ","}, {"", "", "", "1", ""}, // words without bits
	} {
		if got := text(Store(words(x.words), values(x.addr), values(x.data), values(x.enable)[0])); got != x.want {
			t.Errorf("Store(%s; %s, %s, %s) is %s, not %s", x.words, x.addr, x.data, x.enable, got, x.want)
		}
	}
}

// TestStoreNone has no words, with any other arguments.
func TestStoreNone(t *testing.T) {
	for _, none := range [][][]api.Value{nil, {}} {
		for _, l := range [][]api.Value{nil, {}, values("0"), values("1X"), {9}, make([]api.Value, 100)} {
			for v := range api.Value(5) {
				if l := Store(none, l, l, v); len(l) != 0 {
					t.Errorf("Store without words is %v", l)
				}
			}
		}
	}
}

// TestStoreStrange has values above VZ, which count as X.
func TestStoreStrange(t *testing.T) {
	for _, v := range []api.Value{4, 5, 128, 129, 254, 255} {
		l := [][]api.Value{{0, 1, v}, {v, v, 0}}
		zero, one := values("0"), values("1")
		for _, x := range []struct {
			addr, data []api.Value
			enable     api.Value
			want       string
		}{
			{zero, values("111"), 0, "01X,XX0"},
			{zero, values("111"), 1, "111,XX0"},
			{zero, values("111"), v, "X1X,XX0"},
			{one, []api.Value{1, v, 0}, 1, "01X,1X0"},
			{one, []api.Value{1, v, 0}, v, "01X,XX0"},
			{zero, []api.Value{v, v, v}, api.VX, "XXX,XX0"},
			{[]api.Value{v}, values("000"), 1, "0XX,XX0"},
			{[]api.Value{v, 1}, values("000"), 1, "01X,XX0"},
			{[]api.Value{0, v}, values("110"), 1, "X1X,XX0"},
		} {
			if got := text(Store(l, x.addr, x.data, x.enable)); got != x.want {
				t.Errorf("Store at %v of %v with %d is %s, not %s", x.addr, x.data, x.enable, got, x.want)
			}
		}
	}
}

// expectStore compares Store with its definition.
func expectStore(t *testing.T, l [][]api.Value, addr, data []api.Value, enable api.Value) {
	t.Helper()
	if got, want := Store(l, addr, data, enable), storeAt(l, addr, data, enable); !sameWords(got, want) {
		t.Errorf("Store(%v; %v, %v, %v) is %v, not %v", l, addr, data, enable, got, want)
	}
}

// TestStoreAll has words with all values, and all addresses and data of few elements.
func TestStoreAll(t *testing.T) {
	l := words("01XZ,10ZX,0011,1100,XXXX")
	for bits := range 5 {
		for k := range power(4, bits) {
			addr := digits(k, bits, 4)
			for enable := range api.VZ + 1 {
				for i := range 256 {
					if k%3 == i%3 { // a third of them, in turn
						expectStore(t, l, addr, digits(i, 4, 4), enable)
					}
				}
			}
		}
	}
}

// TestStoreOne has a word of one bit: every old value, data bit, enable and address.
func TestStoreOne(t *testing.T) {
	for i := range 625 {
		x := digits(i, 4, 5)
		expectStore(t, [][]api.Value{x[:1]}, x[1:2], x[2:3], x[3])
		expectStore(t, [][]api.Value{{1}, x[:1]}, x[1:2], x[2:3], x[3])
	}
}

// TestStoreLong has addresses of many elements, of which no index has a bit of its own.
func TestStoreLong(t *testing.T) {
	old := "00,01,10"
	for _, n := range []int{2, 3, 31, 32, 33, 62, 63, 64, 65, 127, 128, 129, 256, 5000} {
		for i, want := range []string{"11,01,10", "00,11,10", "00,01,11", old} {
			addr := slicesOf(0, n)
			copy(addr, []api.Value{api.Value(i & 1), api.Value(i >> 1)})
			if got := text(Store(words(old), addr, values("11"), 1)); got != want {
				t.Errorf("%d elements: words %s, not %s", n, got, want)
			}
			for _, k := range []int{2, n / 2, n - 1} {
				if k < 2 || k >= n {
					continue
				}
				addr[k] = 1
				if got := text(Store(words(old), addr, values("11"), 1)); got != old {
					t.Errorf("%d elements, 1 at %d: words %s", n, k, got)
				}
				addr[k] = api.VX
				unsure := []string{"XX,01,10", "00,X1,10", "00,01,1X", old}[i]
				if got := text(Store(words(old), addr, values("11"), 1)); got != unsure {
					t.Errorf("%d elements, X at %d: words %s, not %s", n, k, got, unsure)
				}
				addr[k] = 0
			}
		}
	}
}

// TestStoreRandom compares Store with its definition for words of any lengths, and any values.
func TestStoreRandom(t *testing.T) {
	r := random(8)
	changed, lost := 0, 0
	for range 20000 {
		l, addr, data := r.words(2+r.below(4)), r.values(r.below(5), 2+r.below(4)), r.values(r.below(6), 2+r.below(4))
		enable := r.values(1, 5)[0]
		expectStore(t, l, addr, data, enable)
		for i, word := range Store(l, addr, data, enable) {
			for b, v := range word {
				switch {
				case v <= 1 && v != l[i][b]:
					changed++
				case v > 1 && l[i][b] <= 1:
					lost++
				}
			}
		}
	}
	if changed < 2000 || lost < 2000 {
		t.Errorf("%d bits changed, %d lost", changed, lost)
	}
}

// TestStoreMany writes each of many words, more than a memory may have.
func TestStoreMany(t *testing.T) {
	l := make([][]api.Value, 1000)
	for i := range l {
		l[i] = values("00")
	}
	for i := range l {
		var addr []api.Value
		for k := range 10 {
			addr = append(addr, api.Value(i>>k&1))
		}
		for n, word := range Store(l, addr, values("11"), 1) {
			want := "00"
			if n == i {
				want = "11"
			}
			if got := logic.Text(word...); got != want {
				t.Fatalf("word %d is %s after a write of word %d", n, got, i)
			}
		}
	}
}
