package inject_test

import (
	"testing"

	"probecard/api"
	"probecard/faults"
	. "probecard/inject"
	"probecard/sims"
)

// P13.4: Detects and PairDetects agree with Run, Pair and Differ. The tests of P13.1 and P13.2 compare them with the chapter's words.

// isDifferent reports whether Differ finds a position at which two responses contradict each other, and whether there is one in Out only, in Next only or in both.
func isDifferent(good, bad api.Response) (bool, string) {
	outs, nexts := Differ(good, bad)
	switch {
	case len(outs) > 0 && len(nexts) > 0:
		return true, "both"
	case len(outs) > 0:
		return true, "Out"
	case len(nexts) > 0:
		return true, "Next"
	}
	return false, "none"
}

func TestDetects(t *testing.T) {
	r := random(142)
	seen := map[string]int{}
	for i, c := range circuits(300, 25) {
		for _, m := range []api.Model{api.Stuck, api.Wired, api.Strong} {
			for range 20 {
				f, ok := r.fault(c, m)
				if !ok {
					break
				}
				p := r.pattern(c, 4)
				good, _, _ := sims.Run(c, p)
				bad, _, _ := Run(c, f, p)
				want, where := isDifferent(good, bad)
				seen[where]++
				if is, e := Detects(c, f, p); is != want || e != api.OK {
					t.Errorf("circuit %d: %s, pattern %v: %t with error %d", i, faults.Text(f), p, is, e)
				}
			}
		}
	}
	expectPlaces(t, seen)
}

func TestPairDetects(t *testing.T) {
	r := random(143)
	seen := map[string]int{}
	for i, c := range circuits(300, 25) {
		for range 100 {
			f, ok := r.fault(c, api.Slow)
			if !ok {
				break
			}
			first, second := r.pattern(c, 4), r.pattern(c, 4)
			good, _, _ := sims.Run(c, second)
			bad, _, _ := Pair(c, f, first, second)
			want, where := isDifferent(good, bad)
			seen[where]++
			if is, e := PairDetects(c, f, first, second); is != want || e != api.OK {
				t.Errorf("circuit %d: %s, patterns %v and %v: %t with error %d", i, faults.Text(f), first, second, is, e)
			}
		}
	}
	expectPlaces(t, seen)
}

// expectPlaces expects enough faults that are detected at outputs only, at Dff nodes only, at both and at none.
func expectPlaces(t *testing.T, seen map[string]int) {
	t.Helper()
	for _, where := range []string{"none", "Out", "Next", "both"} {
		if seen[where] < 30 {
			t.Errorf("detected by %s: %d faults", where, seen[where])
		}
	}
}
