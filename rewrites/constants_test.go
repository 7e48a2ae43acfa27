package rewrites_test

import (
	"slices"
	"strconv"
	"strings"
	"testing"

	"probecard/api"
	. "probecard/rewrites"
)

// expectText compares the result of a function with the text of a circuit, and its Map with the given one.
func expectText(t *testing.T, of func(c api.Circuit) (Result, api.Errno), given, want string, to []int) {
	t.Helper()
	c := read(given)
	r, e := of(c)
	if e != api.OK || text(r.Circuit) != want || !slices.Equal(r.Map, to) {
		t.Errorf("%s: %s and %v, not %s and %v, with error %d", given, text(r.Circuit), r.Map, want, to, e)
	}
	if text(c) != given {
		t.Errorf("%s: the argument changes to %s", given, text(c))
	}
}

// upTo returns the numbers from 0 to n-1.
func upTo(n int) []int {
	var l []int
	for i := range n {
		l = append(l, i)
	}
	return l
}

// expectInPlace compares the result of a function that keeps all nodes with the text of a circuit.
func expectInPlace(t *testing.T, of func(c api.Circuit) (Result, api.Errno), given, want string) {
	t.Helper()
	expectText(t, of, given, want, upTo(len(read(given).Nodes)))
}

// P11.1, the errors of all steps, and of P11.2

func TestErrors(t *testing.T) {
	for _, f := range functions() {
		expect := func(name string, c api.Circuit, want api.Errno) {
			t.Helper()
			r, e := f.of(c)
			if e != want {
				t.Errorf("%s of %s: error %d, not %d", f.name, name, e, want)
			}
			if e != api.OK && len(r.Map)+len(r.Circuit.Nodes)+len(r.Circuit.Names)+len(r.Circuit.Mems)+len(r.Circuit.Outs) > 0 {
				t.Errorf("%s of %s: %v with error %d", f.name, name, r, e)
			}
		}
		expect("nothing", api.Circuit{}, api.OK)
		for _, f := range flaws() {
			for _, c := range flawed(f.change) {
				expect(f.name, c, f.want)
			}
		}
		for _, c := range []api.Circuit{plain(), full(), withMemory()} {
			expect("a valid circuit", c, api.OK)
		}
		expect("an output of nothing", api.Circuit{Outs: []int{0}}, api.ErrArg)
	}
}

// P11.1, Constants

// sources are nodes that the nodes of the following tables may read: known are only o and z.
const sources = "INPUT(a); INPUT(b); q = DFF(a); o = ONE(); z = ZERO(); t = TRI(a, b); f = TRI(z, b); "

// TestConstantsNode has single nodes of all kinds.
func TestConstantsNode(t *testing.T) {
	for given, want := range map[string]string{
		"BUF(o)": "ONE()", "BUF(z)": "ZERO()", "BUF(a)": "", "BUF(f)": "", "NOT(o)": "ZERO()", "NOT(z)": "ONE()", "NOT(q)": "", "NOT(f)": "",
		"ZERO()": "", "ONE()": "", "DFF(o)": "", "DFF(z)": "", "DFF(x)": "",
		"AND(a, z)": "ZERO()", "AND(z, o)": "ZERO()", "AND(o, o)": "ONE()", "AND(f, z)": "ZERO()", "AND(a, b, q, t, f, z)": "ZERO()",
		"AND(a, o)": "BUF(a)", "AND(o, b)": "BUF(b)", "AND(o, q, o)": "BUF(q)", "AND(f, o)": "BUF(f)", "AND(o, t)": "BUF(t)", "AND(o, b, o, a, o)": "AND(b, a)", "AND(a, o, a)": "AND(a, a)", "AND(a, a)": "", "AND(b, a, f)": "",
		"NAND(a, z)": "ONE()", "NAND(z, o)": "ONE()", "NAND(o, o, o)": "ZERO()",
		"NAND(a, o)": "NOT(a)", "NAND(o, b)": "NOT(b)", "NAND(o, o, t)": "NOT(t)", "NAND(q, o, a)": "NAND(q, a)", "NAND(b, a)": "",
		"OR(a, o)": "ONE()", "OR(z, o)": "ONE()", "OR(z, z)": "ZERO()",
		"OR(a, z)": "BUF(a)", "OR(z, f)": "BUF(f)", "OR(z, q, z)": "BUF(q)", "OR(b, z, a)": "OR(b, a)", "OR(b, f)": "",
		"NOR(o, b)": "ZERO()", "NOR(z, z)": "ONE()", "NOR(z, o)": "ZERO()",
		"NOR(a, z)": "NOT(a)", "NOR(z, z, z, f)": "NOT(f)", "NOR(z, t, q)": "NOR(t, q)", "NOR(t, t)": "",
		"XOR(o, o)": "ZERO()", "XOR(o, z)": "ONE()", "XOR(z, z)": "ZERO()", "XOR(o, o, o)": "ONE()", "XOR(a, a)": "", "XOR(f, b)": "",
		"XOR(a, z)": "BUF(a)", "XOR(o, a)": "NOT(a)", "XOR(o, a, o)": "BUF(a)", "XOR(o, o, f, o)": "NOT(f)", "XOR(a, o, b)": "XNOR(a, b)", "XOR(o, q, o, a)": "XOR(q, a)", "XOR(z, q, q)": "XOR(q, q)", "XOR(o, o, o, b, z, a)": "XNOR(b, a)",
		"XNOR(o, o)": "ONE()", "XNOR(o, z)": "ZERO()", "XNOR(z, z)": "ONE()", "XNOR(t, a)": "",
		"XNOR(a, z)": "NOT(a)", "XNOR(o, a)": "BUF(a)", "XNOR(o, a, o)": "NOT(a)", "XNOR(b, o, a)": "XOR(b, a)", "XNOR(z, z, b, a)": "XNOR(b, a)", "XNOR(o, o, t, b)": "XNOR(t, b)",
		"MUX(z, a, b)": "BUF(a)", "MUX(o, a, b)": "BUF(b)", "MUX(z, f, o)": "BUF(f)", "MUX(o, z, t)": "BUF(t)", "MUX(z, o, a)": "ONE()", "MUX(o, a, z)": "ZERO()",
		"MUX(a, o, o)": "ONE()", "MUX(f, z, z)": "ZERO()", "MUX(a, o, z)": "", "MUX(a, b, b)": "", "MUX(f, a, o)": "",
		"TRI(o, o)": "ONE()", "TRI(o, z)": "ZERO()", "TRI(z, o)": "", "TRI(z, a)": "", "TRI(a, o)": "", "TRI(o, a)": "", "TRI(o, f)": "", "TRI(f, o)": "",
		"BUS(t)": "", "BUS(f)": "", "BUS(t, f, t)": "", "BUS(f, f)": "",
	} {
		if want == "" {
			want = given
		}
		for _, end := range []string{"", "; OUTPUT(x)", "; y = TRI(x, x); r = DFF(x); OUTPUT(r)"} {
			expect := want + end
			if want == "ONE()" || given == "ONE()" {
				expect = strings.Replace(expect, "TRI(x, x)", "ONE()", 1)
			}
			expectInPlace(t, Constants, sources+"x = "+given+end, sources+"x = "+expect)
		}
	}
}

// TestConstantsBus has Tri and Bus nodes whose nets are constant.
func TestConstantsBus(t *testing.T) {
	head := "INPUT(a); INPUT(b); o = ONE(); z = ZERO(); "
	for given, want := range map[string]string{
		"t = TRI(o, o); x = BUS(t)":                                        "t = TRI(o, o); x = ONE()",
		"t = TRI(o, z); x = BUS(t, t)":                                     "t = TRI(o, z); x = ZERO()",
		"t = TRI(o, o); u = TRI(z, a); x = BUS(u, t)":                      "t = TRI(o, o); u = TRI(z, a); x = ONE()",
		"t = TRI(o, o); u = TRI(o, z); x = BUS(t, u)":                      "t = TRI(o, o); u = TRI(o, z); x = BUS(t, u)",
		"t = TRI(o, o); u = TRI(a, b); x = BUS(u, t)":                      "t = TRI(o, o); u = TRI(a, b); x = BUS(u, t)",
		"x = BUS(t, u); t = TRI(o, o); u = TRI(o, z); y = AND(t, a)":       "x = BUS(t, u); t = TRI(o, o); u = TRI(o, z); y = BUF(a)",
		"t = TRI(o, o); u = TRI(o, z); x = BUS(t); y = TRI(t, u)":          "t = TRI(o, o); u = ZERO(); x = ONE(); y = ZERO()",
		"t = TRI(o, o); x = BUS(t); u = TRI(x, z); y = BUS(u); n = NOT(y)": "t = TRI(o, o); x = ONE(); u = TRI(x, z); y = ZERO(); n = ONE()",
	} {
		for _, end := range []string{"", "; OUTPUT(t); OUTPUT(x)"} {
			expectInPlace(t, Constants, head+given+end, head+want+end)
		}
	}
}

// TestConstantsDeep has constants behind other ones, and loops through states, which are never constant.
func TestConstantsDeep(t *testing.T) {
	expectInPlace(t, Constants,
		"v = NAND(w, a); w = NOT(x); INPUT(a); INPUT(b); x = AND(a, y); y = NOR(b, o); o = ONE(); u = OR(b, x); s = XNOR(o, w, b, v); OUTPUT(s); OUTPUT(y)",
		"v = NOT(a); w = ONE(); INPUT(a); INPUT(b); x = ZERO(); y = ZERO(); o = ONE(); u = BUF(b); s = XNOR(b, v); OUTPUT(s); OUTPUT(y)")
	expectInPlace(t, Constants,
		"z = ZERO(); q = DFF(x); x = AND(q, z); r = DFF(y); y = AND(r, n); n = NOT(z); k = DFF(z); j = NOT(k); OUTPUT(j)",
		"z = ZERO(); q = DFF(x); x = ZERO(); r = DFF(y); y = BUF(r); n = ONE(); k = DFF(z); j = NOT(k); OUTPUT(j)")
	expectInPlace(t, Constants,
		"z = ZERO(); m = MEM(0, 1); n = MEM(0, 1); x = OR(m, z); y = AND(z, n); w = AND(m, n); OUTPUT(w); MEMORY(z, 1, z, y, x)",
		"z = ZERO(); m = MEM(0, 1); n = MEM(0, 1); x = BUF(m); y = ZERO(); w = AND(m, n); OUTPUT(w); MEMORY(z, 1, z, y, x)")
	expectInPlace(t, Constants, text(example()), "INPUT(a); o = ONE(); g = BUF(a); n = NOT(g); m = NOT(n); h = OR(m, a); k = OR(a, g); OUTPUT(h); OUTPUT(k)")
	expectInPlace(t, Constants, "", "")
}

// TestConstantsPins has all kinds with all lists of up to three pins, and with lists of up to MaxFanin pins, beside a Bus or not.
func TestConstantsPins(t *testing.T) {
	heads := [][]api.Node{
		{in(api.Input), in(api.One), in(api.Zero), in(api.Input)},
		{in(api.Input), in(api.Tri, 3, 3), in(api.Tri, 1, 4), in(api.One), in(api.Zero), in(api.Bus, 1)},
		{in(api.Dff, 3), in(api.Not, 2), in(api.And, 3, 4), in(api.Input), in(api.Zero)},
	}
	expectPins := func(head []api.Node, pins []int) {
		for kind := range api.Mem {
			c := of([]int{len(head)}, append(slices.Clone(head), in(kind, pins...))...)
			if _, e := Constants(c); e == api.OK {
				expect(t, "pins "+strconv.Itoa(int(kind)), c)
			}
		}
	}
	for _, head := range heads {
		n := len(head)
		for i := range n * n * n {
			pins := []int{i % n, i / n % n, i / n / n}
			for k := range 4 {
				expectPins(head, pins[:k])
			}
		}
		r := random(n)
		for range 200 {
			expectPins(head, r.numbers(4+r.below(api.MaxFanin-3), 0, n))
		}
	}
}

// TestConstantsWide has gates of MaxFanin pins, of which all but one, or all, are lost.
func TestConstantsWide(t *testing.T) {
	for _, x := range []struct{ kind, neutral, one, none string }{
		{"AND", "o", "BUF(a)", "ONE()"}, {"NAND", "o", "NOT(a)", "ZERO()"}, {"OR", "z", "BUF(a)", "ZERO()"}, {"NOR", "z", "NOT(a)", "ONE()"},
		{"XOR", "z", "BUF(a)", "ZERO()"}, {"XNOR", "z", "NOT(a)", "ONE()"},
	} {
		many := strings.Repeat(x.neutral+", ", api.MaxFanin-1)
		expectInPlace(t, Constants, sources+"x = "+x.kind+"("+many+"a)", sources+"x = "+x.one)
		expectInPlace(t, Constants, sources+"x = "+x.kind+"("+many+x.neutral+")", sources+"x = "+x.none)
	}
	odd := strings.Repeat("o, ", api.MaxFanin-1)
	expectInPlace(t, Constants, sources+"x = XOR("+odd+"a); y = XNOR("+odd+"b)", sources+"x = NOT(a); y = BUF(b)")
	expectInPlace(t, Constants, sources+"x = XOR("+odd+"o); y = XNOR("+odd+"z)", sources+"x = ZERO(); y = ZERO()")
}
