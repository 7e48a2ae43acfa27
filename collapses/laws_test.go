package collapses_test

import (
	"slices"
	"testing"

	"probecard/api"
	. "probecard/collapses"
	"probecard/faults"
	"probecard/inject"
	"probecard/netlists"
)

// P14.5

// eachPattern calls f for all patterns of a circuit with values below limit.
func eachPattern(c api.Circuit, limit api.Value, f func(p api.Pattern)) {
	ins, states := len(netlists.Inputs(c)), len(netlists.States(c))
	l := make([]api.Value, ins+states)
	for {
		f(api.Pattern{In: slices.Clone(l[:ins]), State: slices.Clone(l[ins:])})
		i := 0
		for ; i < len(l) && l[i] == limit-1; i++ {
			l[i] = 0
		}
		if i == len(l) {
			return
		}
		l[i]++
	}
}

// values returns count values below limit, most of them known.
func (r *random) values(count int, limit int) []api.Value {
	l := make([]api.Value, count)
	for i := range l {
		l[i] = api.Value(r.below(2))
		if r.below(6) == 0 {
			l[i] = api.Value(r.below(limit))
		}
	}
	return l
}

// patterns returns all patterns with the values 0, 1, X and Z of a circuit with few inputs and states, and otherwise random ones.
func (r *random) patterns(c api.Circuit) []api.Pattern {
	var l []api.Pattern
	ins, states := len(netlists.Inputs(c)), len(netlists.States(c))
	if ins+states <= 3 {
		eachPattern(c, 4, func(p api.Pattern) { l = append(l, p) })
		return l
	}
	for range 40 {
		l = append(l, api.Pattern{In: r.values(ins, 4), State: r.values(states, 4)})
	}
	return l
}

// detection tells of each fault of a list which of some patterns detect it.
type detection [][]bool

// detectionOf returns the detection of the faults of a list, which are no slow lines.
func detectionOf(t *testing.T, c api.Circuit, l []api.Fault, patterns []api.Pattern) detection {
	t.Helper()
	d := make(detection, len(l))
	known := map[api.Fault][]bool{}
	for i, f := range l {
		if known[f] == nil {
			row := make([]bool, len(patterns))
			for k, p := range patterns {
				is, e := inject.Detects(c, f, p)
				if e != api.OK {
					t.Fatalf("%s: error %d", faults.Text(f), e)
				}
				row[k] = is
			}
			known[f] = row
		}
		d[i] = known[f]
	}
	return d
}

// detectable returns the faults that some pattern detects, and their detection.
func (d detection) detectable(l []api.Fault) ([]api.Fault, detection) {
	var some []api.Fault
	var rows detection
	for i, f := range l {
		if d.count(i) > 0 {
			some, rows = append(some, f), append(rows, d[i])
		}
	}
	return some, rows
}

// implies reports whether all patterns that detect the fault a detect the fault b.
func (d detection) implies(a, b int) bool {
	for k, is := range d[a] {
		if is && !d[b][k] {
			return false
		}
	}
	return true
}

// count returns how many patterns detect a fault.
func (d detection) count(i int) int {
	n := 0
	for _, is := range d[i] {
		if is {
			n++
		}
	}
	return n
}

// expectLaws expects that the patterns detect all faults of a class or none, and that those that detect a class detect the classes that it precedes. It returns how many patterns detect faults of classes with several faults, and of classes that precede others.
func expectLaws(t *testing.T, c api.Circuit, l []api.Fault, d detection) (equal, preceding int) {
	t.Helper()
	classes, _ := Classes(c, l)
	for _, class := range classes {
		for _, i := range class[1:] {
			if !slices.Equal(d[class[0]], d[i]) {
				t.Errorf("%v, outputs %v: %s and %s are in a class", c.Nodes, c.Outs, faults.Text(l[class[0]]), faults.Text(l[i]))
			}
			equal += d.count(i)
		}
	}
	dominances, _ := Dominances(c, l)
	for _, x := range dominances {
		a, b := classes[x[0]][0], classes[x[1]][0]
		if !d.implies(a, b) {
			t.Errorf("%v, outputs %v: the class of %s precedes that of %s", c.Nodes, c.Outs, faults.Text(l[a]), faults.Text(l[b]))
		}
		preceding += d.count(a)
	}
	return equal, preceding
}

// lawLists returns lists of faults that are no slow lines.
func (r *random) lawLists(c api.Circuit) [][]api.Fault {
	stuck := all(c, api.Stuck)
	mixed := slices.Concat(stuck, r.some(6, all(c, api.Wired)), r.some(6, all(c, api.Strong)))
	return [][]api.Fault{stuck, r.shuffled(stuck)[:len(stuck)/2], r.shuffled(mixed)}
}

// TestLaws has random circuits: all patterns of small ones.
func TestLaws(t *testing.T) {
	r := random(149)
	equal, preceding := 0, 0
	for _, c := range slices.Concat(circuits(150, 9), circuits(60, 25)) {
		patterns := r.patterns(c)
		for _, l := range r.lawLists(c) {
			a, b := expectLaws(t, c, l, detectionOf(t, c, l, patterns))
			equal, preceding = equal+a, preceding+b
		}
	}
	if equal < 10000 || preceding < 1000 {
		t.Errorf("%d and %d detections", equal, preceding)
	}
}

// TestLawsSmall has many small circuits with all patterns of 0, 1, X and Z.
func TestLawsSmall(t *testing.T) {
	equal, preceding, count := 0, 0, 0
	eachSmall(func(c api.Circuit) {
		if count++; count%4 > 0 {
			return
		}
		var patterns []api.Pattern
		eachPattern(c, 4, func(p api.Pattern) { patterns = append(patterns, p) })
		l := all(c, api.Stuck)
		a, b := expectLaws(t, c, l, detectionOf(t, c, l, patterns))
		equal, preceding = equal+a, preceding+b
	})
	if equal < 10000 || preceding < 1000 {
		t.Errorf("%d and %d detections", equal, preceding)
	}
}

// pick returns for each fault one of the patterns that detect it.
func (r *random) pick(d detection, indices []int) []int {
	var l []int
	for _, i := range indices {
		var detecting []int
		for k, is := range d[i] {
			if is {
				detecting = append(detecting, k)
			}
		}
		l = append(l, detecting[r.below(len(detecting))])
	}
	return l
}

// isDetected reports whether one of some patterns detects a fault.
func (d detection) isDetected(i int, patterns []int) bool {
	return slices.ContainsFunc(patterns, func(k int) bool { return d[i][k] })
}

// TestLawsCore has lists of faults that are all detected by some pattern, and sets of patterns that detect every fault of the core.
func TestLawsCore(t *testing.T) {
	r := random(150)
	smaller := 0
	for _, c := range slices.Concat(circuits(120, 10), circuits(50, 25)) {
		patterns := r.patterns(c)
		for _, l := range r.lawLists(c) {
			d := detectionOf(t, c, l, patterns)
			l, d = d.detectable(l)
			core, e := Core(c, l)
			for range 3 {
				chosen := r.pick(d, core)
				for i, f := range l {
					if e != api.OK || !d.isDetected(i, chosen) {
						t.Errorf("%v, outputs %v: patterns that detect the core %v of %v do not detect %s, error %d", c.Nodes, c.Outs, core, l, faults.Text(f), e)
					}
				}
			}
			if classes, _ := Classes(c, l); len(core) < len(classes) {
				smaller++
			}
		}
	}
	if smaller < 50 {
		t.Errorf("%d cores are smaller than the classes", smaller)
	}
}

// TestLawsExpand has sets of patterns: if they detect some faults, they detect those that Expand returns.
func TestLawsExpand(t *testing.T) {
	r := random(151)
	more := 0
	for _, c := range slices.Concat(circuits(100, 10), circuits(50, 25)) {
		patterns := r.patterns(c)
		for _, l := range r.lawLists(c) {
			d := detectionOf(t, c, l, patterns)
			chosen := r.numbers(1+r.below(8), 0, len(patterns))
			var detected []int
			for i := range l {
				if d.isDetected(i, chosen) && r.below(3) == 0 {
					detected = append(detected, i)
				}
			}
			got, e := Expand(c, l, detected)
			for _, i := range got {
				if e != api.OK || !d.isDetected(i, chosen) {
					t.Errorf("%v, outputs %v: %s does not follow from %v, error %d", c.Nodes, c.Outs, faults.Text(l[i]), detected, e)
				}
			}
			for _, i := range detected {
				if !slices.Contains(got, i) {
					t.Errorf("%v, outputs %v: Expand of %v returns %v", c.Nodes, c.Outs, detected, got)
				}
			}
			more += len(got) - len(detected)
		}
	}
	if more < 500 {
		t.Errorf("%d faults more", more)
	}
}

// TestLawsCoreExpanded checks that everything follows from the core, and nothing less.
func TestLawsCoreExpanded(t *testing.T) {
	r := random(152)
	for _, c := range circuits(300, 25) {
		for _, l := range r.faultLists(c) {
			core, _ := Core(c, l)
			if got, e := Expand(c, l, core); e != api.OK || len(got) != len(l) {
				t.Errorf("%v, outputs %v: %v follow from the core %v of %d faults, error %d", c.Nodes, c.Outs, got, core, len(l), e)
			}
			if len(core) == 0 {
				continue
			}
			k := r.below(len(core))
			if got, _ := Expand(c, l, slices.Delete(slices.Clone(core), k, k+1)); slices.Contains(got, core[k]) {
				t.Errorf("%v, outputs %v: fault %d of the core %v follows from the others", c.Nodes, c.Outs, core[k], core)
			}
		}
	}
}
