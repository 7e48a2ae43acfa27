package logic_test

import (
	"slices"
	"testing"

	"probecard/api"
	. "probecard/logic"
)

// broken are values above VZ; every function takes them as X.
var broken = []api.Value{4, 5, 127, 128, 200, 255}

// values are the valid values and two that are not.
var values = []api.Value{api.V0, api.V1, api.VX, api.VZ, 4, 255}

// parse returns the values of a text that must be valid.
func parse(t *testing.T, s string) []api.Value {
	t.Helper()
	l, e := Parse(s)
	if e != api.OK {
		t.Fatalf("Parse(%q) returns error %d", s, e)
	}
	return l
}

// lists calls f with every list of n of the given values; f must not keep the list.
func lists(from []api.Value, n int, f func(l []api.Value)) {
	l := make([]api.Value, n)
	var fill func(i int)
	fill = func(i int) {
		if i == n {
			f(l)
			return
		}
		for _, v := range from {
			l[i] = v
			fill(i + 1)
		}
	}
	fill(0)
}

// completions calls f with every replacement of the values that are not known by 0 and 1.
func completions(l []api.Value, f func(bits []int)) {
	var open []int
	bits := make([]int, len(l))
	for i, v := range l {
		if v == api.V0 || v == api.V1 {
			bits[i] = int(v)
		} else {
			open = append(open, i)
		}
	}
	for code := range 1 << len(open) {
		for k, i := range open {
			bits[i] = code >> k & 1
		}
		f(bits)
	}
}

// common returns the value of f that all completions of l have in common, or X.
func common(l []api.Value, f func(bits []int) int) api.Value {
	var seen [2]bool
	completions(l, func(bits []int) { seen[f(bits)] = true })
	switch seen {
	case [2]bool{true, false}:
		return api.V0
	case [2]bool{false, true}:
		return api.V1
	}
	return api.VX
}

// sum returns the number of ones.
func sum(bits []int) int {
	n := 0
	for _, b := range bits {
		n += b
	}
	return n
}

// truth returns b as a bit.
func truth(b bool) int {
	if b {
		return 1
	}
	return 0
}

// boolean returns the Boolean function of a kind; it has none for Tri, Bus and the kinds without a function.
func boolean(kind api.Kind) func(bits []int) int {
	and := func(bits []int) int { return truth(sum(bits) == len(bits)) }
	or := func(bits []int) int { return truth(sum(bits) > 0) }
	xor := func(bits []int) int { return sum(bits) % 2 }
	not := func(f func(bits []int) int) func(bits []int) int {
		return func(bits []int) int { return 1 - f(bits) }
	}
	switch kind {
	case api.Zero:
		return func([]int) int { return 0 }
	case api.One:
		return func([]int) int { return 1 }
	case api.Buf:
		return or
	case api.Not:
		return not(or)
	case api.And:
		return and
	case api.Nand:
		return not(and)
	case api.Or:
		return or
	case api.Nor:
		return not(or)
	case api.Xor:
		return xor
	case api.Xnor:
		return not(xor)
	case api.Mux:
		return func(bits []int) int { return bits[1+bits[0]] }
	}
	return nil
}

// P1.1

func TestClean(t *testing.T) {
	for n := range 256 {
		v := api.Value(n)
		want := v
		if n > 3 {
			want = api.VX
		}
		if got := Clean(v); got != want {
			t.Errorf("Clean(%d) = %d, not %d", v, got, want)
		}
	}
}

func TestReadKnown(t *testing.T) {
	for n := range 256 {
		v := api.Value(n)
		want, known := api.VX, n == 0 || n == 1
		if known {
			want = v
		}
		if got := Read(v); got != want {
			t.Errorf("Read(%d) = %d, not %d", v, got, want)
		}
		if got := Known(v); got != known {
			t.Errorf("Known(%d) = %t", v, got)
		}
	}
}

func TestBelow(t *testing.T) {
	below := []string{"00", "11", "XX", "ZZ", "X0", "X1", "XZ"}
	lists([]api.Value{0, 1, 2, 3}, 2, func(l []api.Value) {
		want := slices.Contains(below, Text(l...))
		if got := Below(l[0], l[1]); got != want {
			t.Errorf("Below(%d, %d) = %t", l[0], l[1], got)
		}
	})
	for _, x := range broken {
		for _, v := range values {
			if !Below(x, v) {
				t.Errorf("Below(%d, %d) = false", x, v)
			}
			if got, want := Below(v, x), v == api.VX || v > api.VZ; got != want {
				t.Errorf("Below(%d, %d) = %t", v, x, got)
			}
		}
	}
}

// P1.2

func TestNot(t *testing.T) {
	for n := range 256 {
		want := api.VX
		switch n {
		case 0:
			want = api.V1
		case 1:
			want = api.V0
		}
		if got := Not(api.Value(n)); got != want {
			t.Errorf("Not(%d) = %d, not %d", n, got, want)
		}
	}
}

// TestLists compares And, Or and Xor with the Boolean functions of all completions, also for no and for one argument.
func TestLists(t *testing.T) {
	for _, x := range []struct {
		name string
		f    func(l ...api.Value) api.Value
		kind api.Kind
	}{{"And", And, api.And}, {"Or", Or, api.Or}, {"Xor", Xor, api.Xor}} {
		for n := range 5 {
			lists(values, n, func(l []api.Value) {
				if got, want := x.f(l...), common(l, boolean(x.kind)); got != want {
					t.Errorf("%s%v = %d, not %d", x.name, l, got, want)
				}
			})
		}
	}
}

func TestNoArguments(t *testing.T) {
	if a, o, x := And(), Or(), Xor(); a != api.V1 || o != api.V0 || x != api.V0 {
		t.Errorf("And(), Or(), Xor() = %d, %d, %d", a, o, x)
	}
	if b, c := Bus(), Conflict(); b != api.VZ || c {
		t.Errorf("Bus(), Conflict() = %d, %t", b, c)
	}
}

// TestLongLists has more arguments than a gate has inputs, and the deciding one at every place.
func TestLongLists(t *testing.T) {
	const n = 3 * api.MaxFanin
	for i := range n {
		at := func(all, one api.Value) []api.Value {
			l := slices.Repeat([]api.Value{all}, n)
			l[i] = one
			return l
		}
		for _, x := range []struct {
			name      string
			got, want api.Value
		}{
			{"And of 1 and a 0", And(at(1, 0)...), api.V0},
			{"And of X and a 0", And(at(2, 0)...), api.V0},
			{"And of 1 and a Z", And(at(1, 3)...), api.VX},
			{"Or of 0 and a 1", Or(at(0, 1)...), api.V1},
			{"Or of X and a 1", Or(at(2, 1)...), api.V1},
			{"Or of 0 and a Z", Or(at(0, 3)...), api.VX},
			{"Xor of 0 and a 1", Xor(at(0, 1)...), api.V1},
			{"Xor of 1 and a 0", Xor(at(1, 0)...), api.V1},
			{"Xor of 1 and a Z", Xor(at(1, 3)...), api.VX},
			{"Bus of Z and a 1", Bus(at(3, 1)...), api.V1},
			{"Bus of Z and a 0", Bus(at(3, 0)...), api.V0},
			{"Bus of Z and an X", Bus(at(3, 2)...), api.VX},
			{"Bus of 1 and a 0", Bus(at(1, 0)...), api.VX},
		} {
			if x.got != x.want {
				t.Errorf("%s at %d: %d, not %d", x.name, i, x.got, x.want)
			}
		}
		if !Conflict(at(1, 0)...) || !Conflict(at(0, 1)...) || Conflict(at(1, 3)...) || Conflict(at(2, 0)...) {
			t.Errorf("Conflict with the other value at %d", i)
		}
	}
}

func TestMux(t *testing.T) {
	lists(values, 3, func(l []api.Value) {
		if got, want := Mux(l[0], l[1], l[2]), common(l, boolean(api.Mux)); got != want {
			t.Errorf("Mux%v = %d, not %d", l, got, want)
		}
	})
}

// P1.3

func TestTri(t *testing.T) {
	for in, want := range map[string]string{
		"00": "Z", "01": "Z", "0X": "Z", "0Z": "Z",
		"10": "0", "11": "1", "1X": "X", "1Z": "X",
		"X0": "X", "X1": "X", "XX": "X", "XZ": "X",
		"Z0": "X", "Z1": "X", "ZX": "X", "ZZ": "X",
	} {
		l := parse(t, in)
		if got := Text(Tri(l[0], l[1])); got != want {
			t.Errorf("Tri(%s) = %s, not %s", in, got, want)
		}
	}
	for _, x := range broken {
		if a, b, c := Tri(x, api.V1), Tri(api.V0, x), Tri(api.V1, x); a != api.VX || b != api.VZ || c != api.VX {
			t.Errorf("Tri of %d: %d, %d, %d", x, a, b, c)
		}
	}
}

func TestBusPairs(t *testing.T) {
	for in, want := range map[string]string{
		"0": "0", "1": "1", "X": "X", "Z": "Z",
		"00": "0", "01": "X", "0X": "X", "0Z": "0",
		"10": "X", "11": "1", "1X": "X", "1Z": "1",
		"X0": "X", "X1": "X", "XX": "X", "XZ": "X",
		"Z0": "0", "Z1": "1", "ZX": "X", "ZZ": "Z",
		"0Z0": "0", "Z1Z": "1", "ZZZ": "Z", "1Z0": "X", "0Z1X": "X",
	} {
		if got := Text(Bus(parse(t, in)...)); got != want {
			t.Errorf("Bus(%s) = %s, not %s", in, got, want)
		}
	}
}

// TestDrivers checks Bus and Conflict against the sets of values that occur.
func TestDrivers(t *testing.T) {
	for n := range 5 {
		lists(values, n, func(l []api.Value) {
			zero, one := slices.Contains(l, api.V0), slices.Contains(l, api.V1)
			unknown := slices.ContainsFunc(l, func(v api.Value) bool { return v == api.VX || v > api.VZ })
			want := api.VZ
			switch {
			case unknown || zero && one:
				want = api.VX
			case zero:
				want = api.V0
			case one:
				want = api.V1
			}
			if got := Bus(l...); got != want {
				t.Errorf("Bus%v = %d, not %d", l, got, want)
			}
			if got := Conflict(l...); got != (zero && one) {
				t.Errorf("Conflict%v = %t", l, got)
			}
		})
	}
}

// P1.4

func TestFanin(t *testing.T) {
	want := [16][2]int{{0, 0}, {0, 0}, {0, 0}, {1, 1}, {1, 1}, {2, 16}, {2, 16}, {2, 16}, {2, 16}, {2, 16}, {2, 16}, {3, 3}, {2, 2}, {1, 16}, {1, 1}, {0, 0}}
	for n := range 256 {
		w := [2]int{0, -1}
		if n < len(want) {
			w = want[n]
		}
		if least, most := Fanin(api.Kind(n)); least != w[0] || most != w[1] {
			t.Errorf("Fanin(%d) = %d, %d, not %v", n, least, most, w)
		}
	}
}

// TestEval compares Eval with the function of each kind, for all short lists of inputs.
func TestEval(t *testing.T) {
	for n := range 256 {
		kind := api.Kind(n)
		least, most := Fanin(kind)
		for size := range 5 {
			lists(values, size, func(l []api.Value) {
				want := api.VX
				if size >= least && size <= most {
					switch {
					case boolean(kind) != nil:
						want = common(l, boolean(kind))
					case kind == api.Tri:
						want = Tri(l[0], l[1])
					case kind == api.Bus:
						want = Bus(l...)
					}
				}
				if got := Eval(kind, l...); got != want {
					t.Errorf("Eval(%d, %v) = %d, not %d", kind, l, got, want)
				}
			})
		}
	}
}

// TestEvalWidths checks the bounds of the numbers of inputs, with inputs for which each kind has a known value.
func TestEvalWidths(t *testing.T) {
	for _, x := range []struct {
		kind        api.Kind
		least, most int
		in          api.Value
		want        func(n int) api.Value
	}{
		{api.Zero, 0, 0, 1, func(int) api.Value { return 0 }},
		{api.One, 0, 0, 1, func(int) api.Value { return 1 }},
		{api.Buf, 1, 1, 1, func(int) api.Value { return 1 }},
		{api.Not, 1, 1, 1, func(int) api.Value { return 0 }},
		{api.And, 2, 16, 1, func(int) api.Value { return 1 }},
		{api.Nand, 2, 16, 1, func(int) api.Value { return 0 }},
		{api.Or, 2, 16, 1, func(int) api.Value { return 1 }},
		{api.Nor, 2, 16, 1, func(int) api.Value { return 0 }},
		{api.Xor, 2, 16, 1, func(n int) api.Value { return api.Value(n % 2) }},
		{api.Xnor, 2, 16, 1, func(n int) api.Value { return api.Value(1 - n%2) }},
		{api.Mux, 3, 3, 1, func(int) api.Value { return 1 }},
		{api.Tri, 2, 2, 1, func(int) api.Value { return 1 }},
		{api.Bus, 1, 16, 1, func(int) api.Value { return 1 }},
		{api.Input, 0, -1, 1, nil}, {api.Mem, 0, -1, 1, nil}, {api.Dff, 0, -1, 1, nil}, {16, 0, -1, 1, nil}, {255, 0, -1, 1, nil},
	} {
		for n := range 40 {
			want := api.VX
			if n >= x.least && n <= x.most {
				want = x.want(n)
			}
			if got := Eval(x.kind, slices.Repeat([]api.Value{x.in}, n)...); got != want {
				t.Errorf("Eval(%d) of %d inputs = %d, not %d", x.kind, n, got, want)
			}
		}
	}
}

func TestControlInverts(t *testing.T) {
	for n := range 256 {
		kind := api.Kind(n)
		want, has := api.VX, false
		switch kind {
		case api.And, api.Nand:
			want, has = api.V0, true
		case api.Or, api.Nor:
			want, has = api.V1, true
		}
		if v, ok := Control(kind); v != want || ok != has {
			t.Errorf("Control(%d) = %d, %t", kind, v, ok)
		}
		inverts := kind == api.Not || kind == api.Nand || kind == api.Nor || kind == api.Xnor
		if got := Inverts(kind); got != inverts {
			t.Errorf("Inverts(%d) = %t", kind, got)
		}
	}
}

// P1.5

func TestText(t *testing.T) {
	if got := Text(); got != "" {
		t.Errorf("Text() = %q", got)
	}
	if got := Text(api.V0, api.V1, api.VX, api.VZ); got != "01XZ" {
		t.Errorf("Text(0, 1, 2, 3) = %q", got)
	}
	for _, x := range broken {
		if got := Text(api.VZ, x, api.V1); got != "ZX1" {
			t.Errorf("Text(3, %d, 1) = %q", x, got)
		}
	}
}

func TestParse(t *testing.T) {
	for n := range 5 {
		lists([]api.Value{0, 1, 2, 3}, n, func(l []api.Value) {
			got, e := Parse(Text(l...))
			if e != api.OK || !slices.Equal(got, l) {
				t.Errorf("Parse(%q) = %v, %d", Text(l...), got, e)
			}
			if cap(got) != len(got) {
				t.Errorf("Parse(%q) has capacity %d", Text(l...), cap(got))
			}
		})
	}
}

// TestParseBytes puts every byte at the start, in the middle and at the end of a text.
func TestParseBytes(t *testing.T) {
	for n := range 256 {
		b := string([]byte{byte(n)})
		want := api.ErrForm
		if n == '0' || n == '1' || n == 'X' || n == 'Z' {
			want = api.OK
		}
		for _, s := range []string{b, b + "01", "0" + b + "1", "01" + b} {
			l, e := Parse(s)
			if e != want {
				t.Errorf("Parse(%q) returns error %d, not %d", s, e, want)
			}
			if e != api.OK && len(l) != 0 {
				t.Errorf("Parse(%q) returns %v with an error", s, l)
			}
		}
	}
	if _, e := Parse("0é1"); e != api.ErrForm {
		t.Errorf("Parse of a rune of two bytes returns error %d", e)
	}
}

// P1.6

// TestMonotone replaces inputs by others that are above them.
func TestMonotone(t *testing.T) {
	for kind := range api.Mem + 2 {
		for n := range 4 {
			lists(values, n, func(l []api.Value) {
				was := Eval(kind, l...)
				lists(values, n, func(m []api.Value) {
					for i := range l {
						if !Below(l[i], m[i]) {
							return
						}
					}
					if now := Eval(kind, m...); !Below(was, now) {
						t.Errorf("Eval(%d): %v gives %d, but %v gives %d", kind, l, was, m, now)
					}
				})
			})
		}
	}
}

// TestExact checks that a known value is returned if and only if all replacements of X by 0 and 1 have it.
func TestExact(t *testing.T) {
	for kind := range api.Mem + 1 {
		least, most := Fanin(kind)
		if boolean(kind) == nil {
			continue
		}
		for n := least; n <= min(most, 6); n++ {
			lists([]api.Value{api.V0, api.V1, api.VX}, n, func(l []api.Value) {
				var seen [3]bool
				completions(l, func(bits []int) {
					m := make([]api.Value, n)
					for i, b := range bits {
						m[i] = api.Value(b)
					}
					seen[Eval(kind, m...)] = true
				})
				want := api.VX
				switch seen {
				case [3]bool{true, false, false}:
					want = api.V0
				case [3]bool{false, true, false}:
					want = api.V1
				}
				if got := Eval(kind, l...); got != want {
					t.Errorf("Eval(%d, %v) = %d, not %d", kind, l, got, want)
				}
			})
		}
	}
}

// TestOrder exchanges neighbours, which leads to every order.
func TestOrder(t *testing.T) {
	lists(values, 4, func(l []api.Value) {
		for i := range len(l) - 1 {
			m := slices.Clone(l)
			m[i], m[i+1] = m[i+1], m[i]
			if And(l...) != And(m...) || Or(l...) != Or(m...) || Xor(l...) != Xor(m...) || Bus(l...) != Bus(m...) || Conflict(l...) != Conflict(m...) {
				t.Errorf("the order of %v matters", l)
			}
		}
	})
}

// TestControlling checks that a controlling value at any pin decides the output.
func TestControlling(t *testing.T) {
	for kind := range api.Mem + 1 {
		v, ok := Control(kind)
		if !ok {
			continue
		}
		want := v
		if Inverts(kind) {
			want = Not(v)
		}
		lists(values, 3, func(l []api.Value) {
			for i := range l {
				m := slices.Clone(l)
				m[i] = v
				if got := Eval(kind, m...); got != want {
					t.Errorf("Eval(%d, %v) = %d, not %d", kind, m, got, want)
				}
			}
		})
	}
}

// P1, R1 and R3

func TestArgumentsAreKept(t *testing.T) {
	l := []api.Value{0, 1, 2, 3, 4, 255, 1, 0}
	was := slices.Clone(l)
	And(l...)
	Or(l...)
	Xor(l...)
	Bus(l...)
	Conflict(l...)
	_ = Text(l...)
	for n := range 256 {
		for size := range l {
			Eval(api.Kind(n), l[:size]...)
		}
	}
	if !slices.Equal(l, was) {
		t.Errorf("the arguments became %v", l)
	}
}

func TestNilIsEmpty(t *testing.T) {
	for n := range 256 {
		if a, b := Eval(api.Kind(n), nil...), Eval(api.Kind(n), []api.Value{}...); a != b {
			t.Errorf("Eval(%d) of nil and of nothing: %d and %d", n, a, b)
		}
	}
	if And(nil...) != And() || Or(nil...) != Or() || Xor(nil...) != Xor() || Bus(nil...) != Bus() || Conflict(nil...) || Text(nil...) != "" {
		t.Error("a nil list is not an empty one")
	}
	if l, e := Parse(""); e != api.OK || len(l) != 0 || cap(l) != 0 {
		t.Errorf("Parse of nothing: %v, %d", l, e)
	}
}

// TestExamples holds the examples of the chapter and of DOC.md.
func TestExamples(t *testing.T) {
	const x, z = api.VX, api.VZ
	for _, c := range []struct {
		call      string
		got, want api.Value
	}{
		{"And(1, X)", And(1, x), x}, {"And(0, X)", And(0, x), 0}, {"And()", And(), 1}, {"Or(Z, 1)", Or(z, 1), 1}, {"Xor(1, 1, 1)", Xor(1, 1, 1), 1},
		{"Mux(X, 1, 1)", Mux(x, 1, 1), 1}, {"Mux(X, 1, 0)", Mux(x, 1, 0), x}, {"Mux(0, Z, 1)", Mux(0, z, 1), x},
		{"Tri(0, 1)", Tri(0, 1), z}, {"Tri(1, Z)", Tri(1, z), x}, {"Bus(Z, 1, Z)", Bus(z, 1, z), 1}, {"Bus(0, 1)", Bus(0, 1), x}, {"Bus(X, Z)", Bus(x, z), x}, {"Bus()", Bus(), z},
		{"Eval(Nor, 0, 0)", Eval(api.Nor, 0, 0), 1}, {"Eval(Nor, 0)", Eval(api.Nor, 0), x}, {"Eval(Dff, 1)", Eval(api.Dff, 1), x},
		{"Eval(Nand, 1, 0)", Eval(api.Nand, 1, 0), 1}, {"Or(0, X)", Or(0, x), x},
	} {
		if c.got != c.want {
			t.Errorf("%s = %d, not %d", c.call, c.got, c.want)
		}
	}
	if l, e := Parse("1Z"); e != api.OK || !slices.Equal(l, []api.Value{1, 3}) {
		t.Errorf("Parse(1Z) = %v, %d", l, e)
	}
	if l, e := Parse("2"); e != api.ErrForm || len(l) != 0 {
		t.Errorf("Parse(2) = %v, %d", l, e)
	}
}
