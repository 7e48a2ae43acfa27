package faults_test

import (
	"strings"
	"testing"

	"probecard/api"
	. "probecard/faults"
)

// P12.4, Parse

// expectParse compares Parse with the chapter's words.
func expectParse(t *testing.T, s string) (api.Fault, api.Errno) {
	t.Helper()
	f, e := Parse(s)
	if want, we := parseOf(s); f != want || e != we {
		t.Errorf("Parse returns %+v and %d for %.200q, not %+v and %d", f, e, s, want, we)
	}
	return f, e
}

func TestParse(t *testing.T) {
	for s, want := range map[string]api.Fault{
		"stuck 12 1":                  {Line: at(12, -1), Value: 1},
		"stuck 0 0":                   {Line: at(0, -1)},
		"stuck 0.0 0":                 {},
		"stuck 3.15 1":                {Line: at(3, 15), Value: 1},
		"slow 7 0":                    {Model: api.Slow, Line: at(7, -1)},
		"slow 10.200 1":               {Model: api.Slow, Line: at(10, 200), Value: 1},
		"slow 999999999.999999999 1":  {Model: api.Slow, Line: at(999999999, 999999999), Value: 1},
		"wired 2 7 0":                 {Model: api.Wired, Line: at(2, -1), Other: 7},
		"wired 7 2 1":                 {Model: api.Wired, Line: at(7, -1), Other: 2, Value: 1},
		"wired 0 0 1":                 {Model: api.Wired, Line: at(0, -1), Value: 1},
		"wired 999999999 100000000 0": {Model: api.Wired, Line: at(999999999, -1), Other: 100000000},
		"strong 7 2":                  {Model: api.Strong, Line: at(7, -1), Other: 2},
		"strong 0 0":                  {Model: api.Strong, Line: at(0, -1)},
		"strong 123456789 987654321":  {Model: api.Strong, Line: at(123456789, -1), Other: 987654321},
		"stuck 1234567 1":             {Line: at(1234567, -1), Value: 1},
		"stuck 1.100000000 0":         {Line: at(1, 100000000)},
		"strong 16383 10":             {Model: api.Strong, Line: at(16383, -1), Other: 10},
		"slow 5.6789 0":               {Model: api.Slow, Line: at(5, 6789)},
	} {
		f, e := expectParse(t, s)
		if f != want || e != api.OK || Text(f) != s {
			t.Errorf("Parse returns %+v and %d for %q", f, e, s)
		}
	}
}

func TestParseForm(t *testing.T) {
	for _, s := range []string{
		"", " ", ".", "0", "1 2", "stuck", "slow", "wired", "strong", "stuck ", "strong ",
		"stuck 1", "slow 1", "wired 1", "strong 1", "wired 1 2", "stuck 1 ", "strong 1 ", "wired 1 2 ", "wired 1 2.0", "stuck 1.0",
		"stuck 1 1 1", "slow 1 0 0", "wired 1 2 0 1", "strong 1 2 0", "strong 1 2 1", "strong 1 2 3 4 5", "stuck 1 1 2 3 4 5 6",
		" stuck 1 1", "stuck 1 1 ", "stuck  1 1", "stuck 1  1", "stuck\t1 1", "stuck 1\t1", "stuck 1 1\n", "\nstuck 1 1", "stuck 1\u00a01", "stuck 1 1\x00", "stuck,1,1", "stuck1 1", "stuck 11", "strong 1\n2", " ", "  ", "   ", "    ", "     ",
		"stuck +1 1", "stuck -1 1", "stuck -0 1", "stuck 1 -1", "stuck 1 +1", "stuck 1.-1 1", "stuck 1.+1 1", "stuck 1.-0 1", "wired -1 2 0", "wired 1 -2 0", "strong 1 +2", "strong 1 -2", "strong -1 2", "stuck - 1", "stuck -3.-2 1",
		"stuck 01 1", "stuck 00 1", "stuck 1.00 1", "stuck 1.01 0", "stuck 1 01", "stuck 1 00", "wired 01 2 0", "wired 1 02 0", "wired 1 2 00", "strong 00 1", "strong 1 00", "stuck 000000001 1",
		"stuck 1000000000 1", "stuck 1.1000000000 1", "slow 9999999999 0", "slow 0.9999999999 0", "wired 1000000000 1 0", "wired 1 1000000000 0", "strong 1000000000 1", "strong 1 1000000000", "stuck 18446744073709551617 0", "strong 4294967296 18446744073709551616", "stuck 1 10000000000", "stuck 0000000000 1",
		"stuck 1 2", "stuck 1 3", "stuck 1 9", "stuck 1 10", "stuck 1 11", "slow 1.1 2", "slow 1 X", "slow 1 Z", "wired 1 2 2", "wired 1 2 3", "wired 1 2 12", "wired 1 2 X", "stuck 1 0.0", "wired 1 2 0.0",
		"wired 1.0 2 0", "wired 1 2.0 0", "wired 1.0 2.0 1", "strong 1.0 2", "strong 1 2.0", "strong 1.1 2.1", "wired 1.2 0", "strong 1.2",
		"stuck 1. 1", "stuck .1 1", "stuck . 1", "stuck 1.1.1 0", "stuck 1..1 0", "slow 1.1. 1", "slow .1.1 1", "slow 1,1 1", "strong . 1", "strong 1 .",
		"Stuck 1 1", "STUCK 1 1", "sTuck 1 1", "Slow 1 0", "SLOW 1 0", "Wired 1 2 0", "wireD 1 2 0", "Strong 1 2", "STRONG 1 2",
		"stuc 1 1", "stuckk 1 1", "tuck 1 1", "low 1 1", "slows 1 0", "wire 1 2 0", "strongs 1 2", "bridge 1 2 0", "0 1 1", "stuck0 1 1", "1 stuck 1", "1 1 stuck", "x 1 1",
		"stuck 1a 1", "stuck a1 1", "stuck 0x1 1", "stuck 1e2 1", "stuck 1_0 1", "stuck ١ 1", "stuck 1 ١", "stuck one 1", "stuck 1 one", "stuck 1/1 1", "stuck : 1", "stuck / 1", "strong 1: 2", "strong 1 2/",
		"stuck 1 1\r", "stuck 1 1\r\nstuck 1 1", "stuck 1 1;", "stuck 1 1, stuck 1 1", "\"stuck 1 1\"", "stuck 1 1 # text",
	} {
		if f, e := expectParse(t, s); e != api.ErrForm || f != (api.Fault{}) {
			t.Errorf("Parse returns %+v and %d for %q", f, e, s)
		}
	}
}

// goodTexts are texts of faults.
var goodTexts = []string{"stuck 0 0", "stuck 12 1", "stuck 3.0 1", "slow 10.15 0", "slow 9 1", "slow 100000000.999999999 0", "wired 2 7 0", "wired 10 305 1", "wired 0 999999999 0", "strong 7 2", "strong 10 0", "strong 123456789 1"}

// TestParseEdits removes, inserts and replaces each byte of texts, and swaps and repeats what follows each other.
func TestParseEdits(t *testing.T) {
	faults := 0
	expect := func(s string) {
		if _, e := expectParse(t, s); e == api.OK {
			faults++
		}
	}
	for _, s := range goodTexts {
		for i := range len(s) + 1 {
			expect(s[:i])
			expect(s[i:])
			expect(s[:i] + s)
			expect(s + s[i:])
			expect(s[i:] + s[:i])
			for b := range 256 {
				expect(s[:i] + string([]byte{byte(b)}) + s[i:])
				if i < len(s) {
					expect(s[:i] + string([]byte{byte(b)}) + s[i+1:])
				}
			}
			for k := i + 1; k <= len(s); k++ {
				expect(s[:i] + s[k:])
				expect(s[:k] + s[i:])
			}
		}
	}
	if faults < 1000 {
		t.Errorf("%d edited texts are those of faults", faults)
	}
}

// TestParseWords has all lists of up to five of these words.
func TestParseWords(t *testing.T) {
	words := []string{"stuck", "slow", "wired", "strong", "Wired", "", "0", "1", "2", "-1", "10", "01", "3.0", "3.", "1234567890"}
	var extend func(s string, left int)
	extend = func(s string, left int) {
		expectParse(t, s)
		if left == 0 {
			return
		}
		for _, word := range words {
			extend(s+" "+word, left-1)
		}
	}
	for _, word := range words {
		extend(word, 3)
	}
	for _, word := range []string{"stuck", "slow", "wired", "strong"} {
		for _, second := range []string{"1", "0", "3.0", ""} {
			extend(word+" "+second, 3)
		}
	}
}

// TestParseDigits has numbers of up to twelve digits at each place.
func TestParseDigits(t *testing.T) {
	for n := 1; n < 30; n++ {
		for _, digits := range []string{strings.Repeat("9", n), "1" + strings.Repeat("0", n-1), strings.Repeat("0", n), "12345678901234567890123456789012"[:n]} {
			for _, s := range []string{"stuck ? 1", "stuck ?.0 1", "slow 0.? 0", "slow ?.? 1", "stuck 1 ?", "wired ? 1 0", "wired 1 ? 1", "wired ? ? 0", "wired 1 2 ?", "strong ? 1", "strong 1 ?", "strong ? ?"} {
				text := strings.ReplaceAll(s, "?", digits)
				_, e := expectParse(t, text)
				if n > 9 && e != api.ErrForm || n == 9 && digits[0] != '0' && e != api.OK && !strings.HasSuffix(s, "1 ?") && !strings.HasSuffix(s, "2 ?") {
					t.Errorf("error %d for %q", e, text)
				}
			}
		}
	}
}

// TestParseLong has long texts.
func TestParseLong(t *testing.T) {
	const n = 1 << 20
	for _, s := range []string{strings.Repeat(" ", n), strings.Repeat("1", n), "stuck " + strings.Repeat("1", n) + " 1", "stuck " + strings.Repeat("0", n) + " 1", "wired 1 2 0" + strings.Repeat(" ", n), "strong 1 2" + strings.Repeat(" 1", n), "slow 1" + strings.Repeat(".1", n) + " 1", strings.Repeat("stuck", n), strings.Repeat("stuck 1 1 ", n)} {
		if f, e := Parse(s); e != api.ErrForm || f != (api.Fault{}) {
			t.Errorf("Parse returns %+v and %d for %d bytes %.20q", f, e, len(s), s)
		}
	}
}

// TestParseText parses the texts of faults, valid or not: those with numbers that Parse refuses have no other fault.
func TestParseText(t *testing.T) {
	numbers := []int{-1000000000, -2, -1, 0, 1, 10, 99999, 999999999, 1000000000, 1 << 40}
	good := 0
	for _, f := range product(models(), numbers, numbers, numbers, []api.Value{0, 1, 2, 10, 255}) {
		s := Text(f)
		g, e := expectParse(t, s)
		if e != api.OK {
			continue
		}
		good++
		want := f
		if f.Model <= api.Slow {
			want.Other = 0
		} else {
			want.Line.Pin = -1
		}
		if f.Model == api.Strong {
			want.Value = 0
		}
		if g != want {
			t.Errorf("Parse returns %+v for %q, the text of %+v", g, s, f)
		}
	}
	if good < 1000 {
		t.Errorf("%d texts", good)
	}
}
