package cycles_test

import (
	"slices"
	"strconv"
	"testing"

	"probecard/api"
	"probecard/memories"
)

// P10.5

// TestSettledTable has sequences whose known Dff nodes are found by hand.
func TestSettledTable(t *testing.T) {
	and := of([]int{2}, in(api.Input), in(api.Dff, 2), in(api.And, 0, 1))
	back := of(nil, in(api.Dff, 4), in(api.Not, 0), in(api.Dff, 0), in(api.Dff, 2), in(api.Input))
	for _, x := range []struct {
		name string
		c    api.Circuit
		in   [][]api.Value
		want []int
	}{
		{"example", example(), sequence("1 1 0"), nil},
		{"example", example(), nil, nil},
		{"and", and, sequence("0"), []int{1}},
		{"and", and, sequence("0 1 1"), []int{1}},
		{"and", and, sequence("1"), nil},
		{"and", and, sequence("0 X 1"), []int{1}},
		{"and", and, nil, nil},
		{"register", register(3), sequence("1"), []int{1}},
		{"register", register(3), sequence("1 0"), []int{1, 2}},
		{"register", register(3), sequence("1 0 1"), []int{1, 2, 3}},
		{"register", register(3), sequence("0 Z 1"), []int{1, 3}},
		{"register", register(3), sequence("X 0 X"), []int{2}},
		{"back", back, sequence("0"), []int{0}},
		{"back", back, sequence("1 Z 0"), []int{0, 3}},
		{"back", back, sequence("1 0 X"), []int{2, 3}},
		{"itself", of(nil, in(api.Dff, 0), in(api.Input)), sequence("0 1"), nil},
		{"constant", of(nil, in(api.One), in(api.Dff, 0)), make([][]api.Value, 1), []int{1}},
		{"tri", of(nil, in(api.Dff, 2), in(api.Input), in(api.Tri, 1, 1)), sequence("1"), []int{0}},
		{"tri", of(nil, in(api.Dff, 2), in(api.Input), in(api.Tri, 1, 1)), sequence("0"), nil},
		{"ram", ram(), sequence("00101 00000"), nil},
		{"ram", ram(), sequence("00101 00000 00000"), []int{6}},
		{"ram", ram(), sequence("00101 10001 01001 11101 XX000 00000"), nil},
		{"ram", ram(), sequence("00101 10101 01101 11111 XX000 00000"), []int{6}},
		{"nothing", api.Circuit{}, make([][]api.Value, 3), nil},
	} {
		got, e := expectSettled(t, x.name, x.c, x.in)
		if e != api.OK || !slices.Equal(got, x.want) {
			t.Errorf("%s: %v, not %v, error %d", x.name, got, x.want, e)
		}
	}
}

// TestSettledErrors has circuits, numbers of cycles and inputs with errors, and several of them.
func TestSettledErrors(t *testing.T) {
	r := random(41)
	expect := func(name string, c api.Circuit, l [][]api.Value, want api.Errno) {
		t.Helper()
		if _, e := expectSettled(t, name, c, l); e != want {
			t.Errorf("%s, %d cycles: error %d, not %d", name, len(l), e, want)
		}
	}
	for _, n := range []int{1024, 1025, 1026, 4000} {
		want := api.OK
		if n > 1024 {
			want = api.ErrLimit
		}
		for _, c := range []api.Circuit{{}, example(), ram()} {
			expect("long", c, r.sequence(c, n, 4), want)
		}
	}
	for _, f := range flaws() {
		for _, c := range flawed(f.change) {
			expect(f.name, c, nil, f.want)
			expect(f.name, c, sequence("01X Z?0 1"), f.want)
			expect(f.name, c, r.sequence(plain(), 2, 4), f.want)
			expect(f.name, c, make([][]api.Value, 1025), api.ErrLimit)
		}
	}
	for _, x := range wrongInputs() {
		for k := range 3 {
			for _, y := range wrongInputs() {
				l := append(r.sequence(full(), k, 4), values(x.text), values("0X1"), values(y.text))
				expect(x.text, plain(), l, x.want)
				expect(x.text, full(), l, x.want)
			}
		}
	}
}

// TestSettledRandom compares Settled with its definition.
func TestSettledRandom(t *testing.T) {
	r := random(42)
	some := 0
	for i, c := range circuits(500, 25, 2) {
		for n := range 6 {
			l, _ := expectSettled(t, "circuit "+strconv.Itoa(i), c, r.sequence(c, n, 2+r.below(4)/3*2))
			some += min(len(l), 1)
		}
	}
	if some < 400 {
		t.Errorf("only %d sequences settle a Dff node", some)
	}
}

// TestSettledNothing has no cycles: no Dff node is known, and the errors of the circuit are found.
func TestSettledNothing(t *testing.T) {
	for i, c := range circuits(100, 20, 2) {
		for _, none := range [][][]api.Value{nil, {}} {
			if l, e := expectSettled(t, "circuit "+strconv.Itoa(i), c, none); len(l) != 0 || e != api.OK {
				t.Errorf("circuit %d: %v, error %d", i, l, e)
			}
		}
		if s := memories.Blank(c); slices.ContainsFunc(s.Dff, func(v api.Value) bool { return v != api.VX }) {
			t.Errorf("circuit %d: the blank state is %s", i, show(s))
		}
	}
}
