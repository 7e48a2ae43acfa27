package pairs_test

import (
	"slices"
	"strings"
	"testing"

	"probecard/api"
	"probecard/logic"
	. "probecard/pairs"
)

// texts holds the text of each valid pair, by Good and Bad.
var texts = [4][4]string{
	{"0", "B", "0/X", "0/Z"},
	{"D", "1", "1/X", "1/Z"},
	{"X/0", "X/1", "X", "X/Z"},
	{"Z/0", "Z/1", "Z/X", "Z"},
}

// five are the texts of the pairs of the D calculus.
var five = []string{"0", "1", "X", "D", "B"}

// some are the values of the pairs that the tests try: the valid ones and two that are not.
var some = []api.Value{api.V0, api.V1, api.VX, api.VZ, 4, 255}

// cleaned returns p with VX for each invalid value.
func cleaned(p Pair) Pair {
	if p.Good > 3 {
		p.Good = 2
	}
	if p.Bad > 3 {
		p.Bad = 2
	}
	return p
}

// all returns the pairs of the values given.
func all(values []api.Value) []Pair {
	var l []Pair
	for _, good := range values {
		for _, bad := range values {
			l = append(l, Pair{Good: good, Bad: bad})
		}
	}
	return l
}

// named returns the pairs with the texts given, from the table of texts.
func named(t *testing.T, s string) []Pair {
	t.Helper()
	var l []Pair
	for _, w := range strings.Fields(s) {
		found := false
		for good, row := range texts {
			if bad := slices.Index(row[:], w); bad >= 0 {
				l = append(l, Pair{Good: api.Value(good), Bad: api.Value(bad)})
				found = true
			}
		}
		if !found {
			t.Fatalf("no pair has the text %q", w)
		}
	}
	return l
}

// lists calls f with every list of n of the given pairs; f must not keep the list.
func lists(from []Pair, n int, f func(l []Pair)) {
	l := make([]Pair, n)
	var fill func(i int)
	fill = func(i int) {
		if i == n {
			f(l)
			return
		}
		for _, p := range from {
			l[i] = p
			fill(i + 1)
		}
	}
	fill(0)
}

// gates calls f with every kind up to two above Mem and every list of few inputs: pairs of all values where there are at most two inputs, otherwise pairs of valid values.
func gates(f func(kind api.Kind, in []Pair)) {
	for kind := range api.Mem + 3 {
		for n := range 3 {
			lists(all(some), n, func(l []Pair) { f(kind, l) })
		}
		lists(all(some[:4]), 3, func(l []Pair) { f(kind, l) })
	}
}

// changed returns the pairs that f makes of l.
func changed(l []Pair, f func(p Pair) Pair) []Pair {
	var out []Pair
	for _, p := range l {
		out = append(out, f(p))
	}
	return out
}

// P2.1

func TestOf(t *testing.T) {
	for n := range 256 {
		v := api.Value(n)
		want := Pair{Good: v, Bad: v}
		if n > 3 {
			want = Pair{Good: 2, Bad: 2}
		}
		if got := Of(v); got != want {
			t.Errorf("Of(%d) = %v, not %v", v, got, want)
		}
	}
}

func TestDB(t *testing.T) {
	if got := D(); got != (Pair{Good: 1, Bad: 0}) {
		t.Errorf("D() = %v", got)
	}
	if got := B(); got != (Pair{Good: 0, Bad: 1}) {
		t.Errorf("B() = %v", got)
	}
}

func TestDiffersKnown(t *testing.T) {
	for good := range 256 {
		for bad := range 256 {
			p := Pair{Good: api.Value(good), Bad: api.Value(bad)}
			known := good < 2 && bad < 2
			if got := Known(p); got != known {
				t.Errorf("Known(%v) = %t", p, got)
			}
			if got := Differs(p); got != (known && good != bad) {
				t.Errorf("Differs(%v) = %t", p, got)
			}
		}
	}
}

// P2.2

func TestEvalTexts(t *testing.T) {
	for _, x := range []struct {
		kind    api.Kind
		in, out string
	}{
		{api.And, "D 1", "D"}, {api.And, "D B", "0"}, {api.Nand, "D 1", "B"}, {api.Xor, "D D", "0"}, {api.Xor, "D 1", "B"},
		{api.And, "D X", "X/0"}, {api.Or, "D X", "1/X"},
		{api.And, "1/X X/0", "X/0"}, {api.And, "1/Z 1", "1/X"}, {api.And, "1/Z 0/Z", "0/X"}, {api.Nand, "0/Z D D", "1"}, {api.Nand, "1/Z 1 1", "0/X"},
		{api.Or, "Z 1/X", "1/X"}, {api.Or, "0/Z 0 X/0", "X"}, {api.Or, "0 0/X 0 D", "1/X"}, {api.Nor, "0 B", "D"}, {api.Nor, "X/0 0", "X/1"},
		{api.Xor, "1/Z 1", "0/X"}, {api.Xor, "D B D", "B"}, {api.Xnor, "D D", "1"}, {api.Xnor, "X/1 B", "X/1"},
		{api.Buf, "Z", "X"}, {api.Buf, "D", "D"}, {api.Not, "X/0", "X/1"}, {api.Not, "B", "D"}, {api.Not, "Z/0", "X/1"},
		{api.Mux, "D X/0 1/X", "D"}, {api.Mux, "0/X D D", "D"}, {api.Mux, "1/Z 0 B", "0/X"},
		{api.Tri, "D D", "1/Z"}, {api.Tri, "B D", "Z/0"}, {api.Tri, "X/0 1", "X/Z"}, {api.Tri, "0", "X"}, {api.Tri, "1 Z", "X"},
		{api.Bus, "D", "D"}, {api.Bus, "1/Z Z/0", "D"}, {api.Bus, "D B", "X"}, {api.Bus, "Z X/Z", "X/Z"}, {api.Bus, "Z Z Z", "Z"}, {api.Bus, "1 1 D", "1/X"},
		{api.Zero, "", "0"}, {api.One, "", "1"},
		// numbers of inputs that the kind does not allow
		{api.Zero, "0", "X"}, {api.One, "1", "X"}, {api.Buf, "", "X"}, {api.Buf, "1 1", "X"}, {api.Not, "", "X"}, {api.And, "", "X"}, {api.And, "0", "X"}, {api.Or, "1", "X"}, {api.Xor, "D", "X"},
		{api.Mux, "0 D", "X"}, {api.Mux, "0 D D D", "X"}, {api.Tri, "1 D D", "X"}, {api.Bus, "", "X"},
		{api.And, strings.Repeat("1 ", 15) + "D", "D"}, {api.And, strings.Repeat("1 ", 16) + "D", "X"}, {api.Nor, strings.Repeat("0 ", 15) + "D", "B"}, {api.Or, strings.Repeat("1 ", 17), "X"},
		// kinds without a function
		{api.Input, "", "X"}, {api.Dff, "D", "X"}, {api.Mem, "", "X"}, {16, "", "X"}, {255, "D D", "X"},
	} {
		want := named(t, x.out)[0]
		if got := Eval(x.kind, named(t, x.in)...); got != want {
			t.Errorf("Eval(%d, %s) = %v, not %v", x.kind, x.in, got, want)
		}
	}
}

func TestEvalInvalidValues(t *testing.T) {
	if got := Eval(api.And, Pair{Good: 9, Bad: 1}, Pair{Good: 1, Bad: 255}); got != (Pair{Good: 2, Bad: 2}) {
		t.Errorf("And of values above VZ is %v", got)
	}
	if got := Eval(api.Bus, Pair{Good: 4, Bad: 3}, Pair{Good: 1, Bad: 1}); got != (Pair{Good: 2, Bad: 1}) {
		t.Errorf("Bus of values above VZ is %v", got)
	}
}

// TestEval compares the two values with logic.Eval, for every kind of a byte and also for too many inputs.
func TestEval(t *testing.T) {
	check := func(kind api.Kind, in []Pair) {
		before := slices.Clone(in)
		var good, bad []api.Value
		for _, p := range in {
			good, bad = append(good, p.Good), append(bad, p.Bad)
		}
		want := Pair{Good: logic.Eval(kind, good...), Bad: logic.Eval(kind, bad...)}
		if got := Eval(kind, in...); got != want {
			t.Errorf("Eval(%d, %v) = %v, not %v", kind, in, got, want)
		}
		if !slices.Equal(in, before) {
			t.Fatalf("Eval(%d, %v) changes its inputs", kind, before)
		}
	}
	gates(check)
	pool := all(some)
	for kind := range 256 {
		for n := range 20 {
			in := make([]Pair, n)
			for i := range in {
				in[i] = pool[(kind*7+n*5+i*11)%len(pool)]
			}
			check(api.Kind(kind), in)
		}
	}
}

// P2.3

// below is the order of pairs, written from the definition.
func below(p, q Pair) bool {
	p, q = cleaned(p), cleaned(q)
	return (p.Good == q.Good || p.Good == 2) && (p.Bad == q.Bad || p.Bad == 2)
}

func TestBelow(t *testing.T) {
	for _, p := range all(some) {
		for _, q := range all(some) {
			if got := Below(p, q); got != below(p, q) {
				t.Errorf("Below(%v, %v) = %t", p, q, got)
			}
		}
	}
	for _, x := range []struct {
		p, q string
		want bool
	}{{"X", "D", true}, {"1/X", "D", true}, {"X/0", "D", true}, {"D", "1/X", false}, {"D", "X", false}, {"D", "B", false}, {"1/X", "X/0", false}, {"X", "Z", true}, {"Z", "X", false}, {"Z", "Z", true}, {"Z", "0", false}, {"X/Z", "0/Z", true}} {
		if got := Below(named(t, x.p)[0], named(t, x.q)[0]); got != x.want {
			t.Errorf("Below(%s, %s) = %t", x.p, x.q, got)
		}
	}
}

func TestFive(t *testing.T) {
	for _, p := range all(some) {
		c := cleaned(p)
		want := Pair{Good: 2, Bad: 2}
		if slices.Contains(five, texts[c.Good][c.Bad]) {
			want = c
		}
		if got := Five(p); got != want {
			t.Errorf("Five(%v) = %v, not %v", p, got, want)
		}
	}
}

// TestJoin searches all valid pairs for the least one that both are below.
func TestJoin(t *testing.T) {
	for _, p := range all(some) {
		for _, q := range all(some) {
			var want Pair
			has := false
			for _, c := range all(some[:4]) {
				least := below(p, c) && below(q, c)
				for _, d := range all(some[:4]) {
					least = least && (!below(p, d) || !below(q, d) || below(c, d))
				}
				if least {
					want, has = c, true
				}
			}
			if got, ok := Join(p, q); got != want || ok != has {
				t.Errorf("Join(%v, %v) = %v, %t, not %v, %t", p, q, got, ok, want, has)
			}
		}
	}
}

func TestJoinTexts(t *testing.T) {
	for _, x := range []struct{ p, q, want string }{{"X", "D", "D"}, {"1/X", "X/0", "D"}, {"B", "X", "B"}, {"X", "Z/X", "Z/X"}, {"Z/X", "X/1", "Z/1"}, {"X", "X", "X"}, {"Z", "Z", "Z"}} {
		if got, ok := Join(named(t, x.p)[0], named(t, x.q)[0]); got != named(t, x.want)[0] || !ok {
			t.Errorf("Join(%s, %s) = %v, %t, not %s", x.p, x.q, got, ok, x.want)
		}
	}
	for _, x := range []struct{ p, q string }{{"D", "B"}, {"1", "D"}, {"D", "1"}, {"0", "D"}, {"Z", "0"}, {"0/X", "1/X"}, {"X/1", "X/Z"}} {
		if got, ok := Join(named(t, x.p)[0], named(t, x.q)[0]); got != (Pair{}) || ok {
			t.Errorf("Join(%s, %s) = %v, %t", x.p, x.q, got, ok)
		}
	}
	if got, ok := Join(Pair{Good: 200, Bad: 4}, Pair{Good: 5, Bad: 1}); got != (Pair{Good: 2, Bad: 1}) || !ok {
		t.Errorf("Join of values above VZ is %v, %t", got, ok)
	}
}

// P2.4

func TestText(t *testing.T) {
	for good := range 256 {
		for bad := range 256 {
			p := Pair{Good: api.Value(good), Bad: api.Value(bad)}
			c := cleaned(p)
			if got, want := Text(p), texts[c.Good][c.Bad]; got != want {
				t.Errorf("Text(%v) = %q, not %q", p, got, want)
			}
		}
	}
}

func TestParse(t *testing.T) {
	for good, row := range texts {
		for bad, s := range row {
			want := Pair{Good: api.Value(good), Bad: api.Value(bad)}
			if got, e := Parse(s); got != want || e != api.OK {
				t.Errorf("Parse(%q) = %v, %d, not %v", s, got, e, want)
			}
		}
	}
}

// TestParseOthers tries every text of at most three bytes around the valid ones, and longer texts.
func TestParseOthers(t *testing.T) {
	valid := map[string]bool{}
	for _, row := range texts {
		for _, s := range row {
			valid[s] = true
		}
	}
	refused := func(s string) {
		if valid[s] {
			return
		}
		if got, e := Parse(s); got != (Pair{}) || e != api.ErrForm {
			t.Errorf("Parse(%q) = %v, %d", s, got, e)
		}
	}
	for n := range 256 {
		b := string([]byte{byte(n)})
		for _, s := range []string{b, b + "/0", "1/" + b, "0" + b + "X", "D" + b, b + "D"} {
			refused(s)
		}
	}
	characters := []string{"", "0", "1", "X", "Z", "D", "B", "/", "x", "d", " "}
	for _, a := range characters {
		for _, b := range characters {
			for _, c := range characters {
				refused(a + b + c)
			}
		}
	}
	for _, s := range []string{"1/0", "0/1", "0/0", "1/1", "X/X", "Z/Z", "D/X", "1//X", "1/X/", "1/X ", " 1/X", "0/X/Z", "1\u2215X", "\xff", strings.Repeat("X", 1<<16), "(1, 0)"} {
		refused(s)
	}
}

// P2.5

// TestMonotone replaces each input by every pair that it is below.
func TestMonotone(t *testing.T) {
	gates(func(kind api.Kind, in []Pair) {
		before := Eval(kind, in...)
		l := slices.Clone(in)
		for i := range in {
			for _, q := range all(some[:4]) {
				if l[i] = q; below(in[i], q) && !Below(before, Eval(kind, l...)) {
					t.Errorf("Eval(%d, %v) is not below that of %v", kind, in, l)
				}
			}
			l[i] = in[i]
		}
	})
}

func TestFiveIsBelowEval(t *testing.T) {
	gates(func(kind api.Kind, in []Pair) {
		calculus := Five(Eval(kind, changed(in, Five)...))
		if exact := Eval(kind, in...); !Below(calculus, exact) {
			t.Errorf("Eval(%d, %v) is %v, in the D calculus %v", kind, in, exact, calculus)
		}
	})
}

func TestDifferenceHasASource(t *testing.T) {
	gates(func(kind api.Kind, in []Pair) {
		source := slices.ContainsFunc(in, func(p Pair) bool { return logic.Read(p.Good) != logic.Read(p.Bad) })
		if out := Eval(kind, in...); Differs(out) && !source {
			t.Errorf("Eval(%d, %v) = %v", kind, in, out)
		}
	})
}

func TestExchange(t *testing.T) {
	exchange := func(p Pair) Pair { return Pair{Good: p.Bad, Bad: p.Good} }
	gates(func(kind api.Kind, in []Pair) {
		if got, want := Eval(kind, changed(in, exchange)...), exchange(Eval(kind, in...)); got != want {
			t.Errorf("Eval(%d) of %v exchanged is %v, not %v", kind, in, got, want)
		}
	})
}
