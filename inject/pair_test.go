package inject_test

import (
	"slices"
	"strconv"
	"testing"

	"probecard/api"
	"probecard/faults"
	. "probecard/inject"
	"probecard/logic"
	"probecard/sims"
)

// P13.2, and PairDetects of P13.4.

// expectPair expects from Pair and PairDetects what the chapter's words say for a valid fault and patterns.
func expectPair(t *testing.T, name string, c api.Circuit, f api.Fault, first, second api.Pattern) {
	t.Helper()
	want, wantNets := pairOf(c, f, first, second)
	r, nets, e := Pair(c, f, first, second)
	if !sameResponse(r, want) || !slices.Equal(nets, wantNets) || e != api.OK {
		t.Errorf("%s: %s, patterns %v and %v: nets %s, response %s, error %d, not %s and %s", name, faults.Text(f), first, second, logic.Text(nets...), show(r), e, logic.Text(wantNets...), show(want))
	}
	if is, e := PairDetects(c, f, first, second); is != isDetected(goodOf(c, second), want) || e != api.OK {
		t.Errorf("%s: %s, patterns %v and %v: PairDetects returns %t and error %d", name, faults.Text(f), first, second, is, e)
	}
}

// TestPairSheet has slow lines at the outputs and the pins of nodes of the sheet, which rise, fall or stay.
func TestPairSheet(t *testing.T) {
	const low, lowShown = "101000Z00010010", "000111 00"     // of the pattern 10 10
	const high, highShown = "111011Z11010011", "111111 11"   // of the pattern 11 10
	const other, otherShown = "100000Z00011000", "000100 00" // of the pattern 10 00
	for _, x := range []struct {
		fault, first, second, nets, bad string
		is                              bool
	}{
		{"slow 1 1", "10 10", "11 10", low, lowShown, true}, {"slow 1 0", "10 10", "11 10", high, highShown, false},
		{"slow 5 1", "10 10", "11 10", "111010Z00010010", lowShown, true}, {"slow 5 0", "10 10", "11 10", high, highShown, false},
		{"slow 5.1 1", "10 10", "11 10", "111010Z00010010", lowShown, true}, {"slow 5.1 0", "10 10", "11 10", high, highShown, false}, {"slow 5.0 1", "10 10", "11 10", high, highShown, false},
		{"slow 7.0 1", "10 10", "11 10", "111011ZXX010011", "XX1111 X1", false}, {"slow 7.2 1", "10 10", "11 10", "111011ZXX010011", "XX1111 X1", false},
		{"slow 7.1 1", "10 10", "11 10", "111011ZXX010011", "XX1111 X1", false}, {"slow 7.1 0", "10 10", "11 10", "111011ZXX010011", "XX1111 X1", false}, // Z and Z give X
		{"slow 6 1", "10 10", "11 10", "111011XXX010011", "XX1111 X1", false}, {"slow 6 0", "10 10", "11 10", "111011XXX010011", "XX1111 X1", false},
		{"slow 7 1", "10 10", "11 10", "111011Z00010011", "001111 01", true}, {"slow 7 0", "10 10", "11 10", high, highShown, false},
		{"slow 2.0 1", "10 10", "11 10", high, "111111 01", true}, {"slow 2.0 0", "10 10", "11 10", high, highShown, false},
		{"slow 12.0 1", "10 10", "11 10", high, "111111 10", true},
		{"slow 4.1 1", "10 10", "11 10", "111001Z11010011", highShown, false}, {"slow 14.0 1", "10 10", "11 10", "111011Z11010010", highShown, false},
		{"slow 13 0", "10 10", "11 10", high, highShown, false}, {"slow 0 0", "10 10", "11 10", high, highShown, false}, {"slow 0 1", "10 10", "11 10", high, highShown, false},
		{"slow 9 1", "10 10", "11 10", high, highShown, false}, {"slow 9 0", "10 10", "11 10", high, highShown, false}, {"slow 10 1", "10 10", "11 10", high, highShown, false},
		{"slow 1 0", "11 10", "10 10", high, highShown, true}, {"slow 1 1", "11 10", "10 10", low, lowShown, false},
		{"slow 5 0", "11 10", "10 10", "101001Z11010011", highShown, true}, {"slow 2.0 0", "11 10", "10 10", low, "000111 10", true}, {"slow 12.0 0", "11 10", "10 10", low, "000111 01", true},
		{"slow 2 0", "10 10", "10 00", low, lowShown, true}, {"slow 2 1", "10 10", "10 00", other, otherShown, false},
		{"slow 11.0 0", "10 10", "10 00", "100000Z00010010", lowShown, true}, {"slow 6.1 0", "10 10", "10 00", other, otherShown, false},
		{"slow 2 1", "10 00", "10 10", other, otherShown, true},
	} {
		first, second := patternOf(x.first), patternOf(x.second)
		r, nets, e := Pair(read(sheet), parsed(x.fault), first, second)
		if logic.Text(nets...) != x.nets || show(r) != x.bad || e != api.OK {
			t.Errorf("%s, %s and %s: nets %s, response %s, error %d, not %s and %s", x.fault, x.first, x.second, logic.Text(nets...), show(r), e, x.nets, x.bad)
		}
		if is, e := PairDetects(read(sheet), parsed(x.fault), first, second); is != x.is || e != api.OK {
			t.Errorf("%s, %s and %s: PairDetects returns %t and error %d", x.fault, x.first, x.second, is, e)
		}
		expectPair(t, "sheet", read(sheet), parsed(x.fault), first, second)
	}
}

// TestPairValues has all values of a line in both cycles, at its output and at the pins that read it.
func TestPairValues(t *testing.T) {
	c := read("INPUT(a); b = BUF(a); n = NOT(a); q = DFF(a); OUTPUT(a); OUTPUT(b); OUTPUT(n)")
	text := func(l ...api.Value) string { return logic.Text(l...) }
	for to, table := range []string{ // the values of the line by old and new ones: 00, 01, 0X, 0Z, 10 and so on
		"01XX" + "1111" + "X1XX" + "X1XX",
		"0000" + "01XX" + "0XXX" + "0XXX",
	} {
		for i, late := range values(table) {
			before, v := api.Value(i/4), api.Value(i%4)
			first, second := api.Pattern{In: []api.Value{before}, State: []api.Value{0}}, api.Pattern{In: []api.Value{v}, State: []api.Value{1}}
			read, inverse, lateInverse := logic.Read(v), logic.Not(v), logic.Not(late)
			lateBuf := values(table)[4*int(logic.Read(before))+int(read)]
			lateNot := values(table)[4*int(logic.Not(before))+int(inverse)]
			for pin, want := range map[string]string{
				"0":   text(late, late, lateInverse, 1) + text(late),
				"1.0": text(v, late, inverse, 1) + text(read),
				"2.0": text(v, read, lateInverse, 1) + text(read),
				"3.0": text(v, read, inverse, 1) + text(late),
				"1":   text(v, lateBuf, inverse, 1) + text(read),
				"2":   text(v, read, lateNot, 1) + text(read),
				"3":   text(v, read, inverse, api.Value(1-to)) + text(read),
			} {
				f := parsed("slow " + pin + " " + strconv.Itoa(to))
				r, nets, e := Pair(c, f, first, second)
				if text(nets...)+text(r.Next...) != want || !slices.Equal(r.Out, nets[:3]) || e != api.OK {
					t.Errorf("%s from %d to %d: nets %s and response %s, error %d, not %s", faults.Text(f), before, v, text(nets...), show(r), e, want)
				}
				expectPair(t, "values", c, f, first, second)
			}
		}
	}
}

// TestPairStates has a Dff whose value in the second cycle is not what it has read in the first one.
func TestPairStates(t *testing.T) {
	c := read("INPUT(a); q = DFF(a); OUTPUT(q)")
	for _, x := range []struct {
		fault, first, second, nets, bad string
		is                              bool
	}{
		{"slow 1 1", "1 0", "0 0", "00", "0 0", false},
		{"slow 1 1", "0 0", "0 1", "00", "0 0", true},
		{"slow 1 0", "0 1", "0 0", "01", "1 0", true},
		{"slow 1.0 1", "0 0", "1 1", "11", "1 0", true},
		{"slow 1.0 1", "1 0", "1 1", "11", "1 1", false},
		{"slow 1.0 0", "1 0", "0 1", "01", "1 1", true},
	} {
		first, second := patternOf(x.first), patternOf(x.second)
		r, nets, e := Pair(c, parsed(x.fault), first, second)
		is, d := PairDetects(c, parsed(x.fault), first, second)
		if logic.Text(nets...) != x.nets || show(r) != x.bad || is != x.is || e != api.OK || d != api.OK {
			t.Errorf("%+v: nets %s, response %s, %t, errors %d and %d", x, logic.Text(nets...), show(r), is, e, d)
		}
	}
}

// TestPairEqual has two equal patterns: a slow line changes nothing but Z.
func TestPairEqual(t *testing.T) {
	r := random(133)
	kept, changed := 0, 0
	for i, c := range circuits(300, 25) {
		for range 4 {
			p := r.pattern(c, 4)
			response, good, _ := sims.Run(c, p)
			for _, f := range all(c, api.Slow) {
				net := f.Line.Node
				if f.Line.Pin >= 0 {
					net = c.Nodes[net].In[f.Line.Pin]
				}
				got, nets, e := Pair(c, f, p, p)
				is, d := PairDetects(c, f, p, p)
				switch {
				case is || e != api.OK || d != api.OK:
					t.Errorf("circuit %d: %s, %v twice: %t with errors %d and %d", i, faults.Text(f), p, is, e, d)
				case good[net] == api.VZ:
					changed++
				case !slices.Equal(nets, good) || !sameResponse(got, response):
					t.Errorf("circuit %d: %s, %v twice: nets %s, response %s", i, faults.Text(f), p, logic.Text(nets...), show(got))
				default:
					kept++
				}
			}
		}
	}
	if kept < 10000 || changed < 1000 {
		t.Errorf("%d and %d cases", kept, changed)
	}
}

// TestPairAll compares Pair and PairDetects with the chapter's words for all slow lines and all pairs of patterns of small circuits.
func TestPairAll(t *testing.T) {
	count := 0
	for i, c := range circuits(150, 7) {
		if p := sims.Blank(c); len(p.In)+len(p.State) > 2 {
			continue
		}
		l := all(c, api.Slow)
		eachPattern(c, 4, func(first api.Pattern) {
			eachPattern(c, 4, func(second api.Pattern) {
				for _, f := range l {
					if len(c.Nodes) < 5 || count%7 == 0 {
						expectPair(t, "circuit "+strconv.Itoa(i), c, f, first, second)
					}
					count++
				}
			})
		})
	}
	if count < 50000 {
		t.Errorf("%d cases", count)
	}
}

// TestPairRandom compares Pair and PairDetects with the chapter's words for larger circuits.
func TestPairRandom(t *testing.T) {
	r := random(134)
	hits := 0
	for i, c := range circuits(400, 50) {
		for range 30 {
			f, ok := r.fault(c, api.Slow)
			if !ok {
				break
			}
			limit := 2 + 2*api.Value(r.below(2))
			first, second := r.pattern(c, limit), r.pattern(c, limit)
			expectPair(t, "circuit "+strconv.Itoa(i), c, f, first, second)
			if is, _ := PairDetects(c, f, first, second); is {
				hits++
			}
		}
	}
	if hits < 100 {
		t.Errorf("%d slow lines are detected", hits)
	}
}

// TestPairLarge has a slow line at the start of a chain of as many nodes as there may be.
func TestPairLarge(t *testing.T) {
	for _, descends := range []bool{false, true} {
		c := chain(descends)
		f := api.Fault{Model: api.Slow, Line: at(0, -1), Value: 1}
		if descends {
			f.Line.Node = api.MaxNodes - 1
		}
		low, high := pattern("0", "0"), pattern("1", "0")
		for _, x := range []struct {
			first, second api.Pattern
			want          string
			is            bool
		}{{low, high, "00 0", true}, {high, high, "11 1", false}, {high, low, "00 0", false}} {
			r, nets, e := Pair(c, f, x.first, x.second)
			is, d := PairDetects(c, f, x.first, x.second)
			if show(r) != x.want || is != x.is || len(nets) != api.MaxNodes || e != api.OK || d != api.OK {
				t.Errorf("response %s, %t, %d nets, errors %d and %d, not %s and %t", show(r), is, len(nets), e, d, x.want, x.is)
			}
		}
	}
}
