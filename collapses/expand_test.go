package collapses_test

import (
	"slices"
	"strconv"
	"testing"

	"probecard/api"
	. "probecard/collapses"
)

// P14.4

// expectExpand expects the indices of faults whose detection follows.
func expectExpand(t *testing.T, name string, c api.Circuit, l []api.Fault, detected, want []int) {
	t.Helper()
	if got, e := Expand(c, l, detected); e != api.OK || !slices.Equal(got, want) {
		t.Errorf("%s, %v: Expand returns %v with error %d, not %v", name, detected, got, e, want)
	}
}

// TestExpandExample has the chapter's example, with each index.
func TestExpandExample(t *testing.T) {
	l := list("0 0, 0 1, 1 0, 1 1, 2 0, 2 1, 2.0 0, 2.0 1, 2.1 0, 2.1 1")
	for i, want := range []string{"0 2 4 6 8", "1 5 7", "0 2 4 6 8", "3 5 9", "0 2 4 6 8", "5", "0 2 4 6 8", "1 5 7", "0 2 4 6 8", "3 5 9"} {
		expectExpand(t, "example", example(), l, []int{i}, ints(want))
	}
	for _, x := range []struct{ detected, want string }{
		{"", ""},
		{"5 5 5", "5"},
		{"1 3", "1 3 5 7 9"},
		{"9 7", "1 3 5 7 9"},
		{"5 1", "1 5 7"},
		{"1 5", "1 5 7"},
		{"8 2 8 0", "0 2 4 6 8"},
		{"4 5", "0 2 4 5 6 8"},
		{"0 1", "0 1 2 4 5 6 7 8"},
		{"0 1 3", "0 1 2 3 4 5 6 7 8 9"},
		{"9 8 7 6 5 4 3 2 1 0", "0 1 2 3 4 5 6 7 8 9"},
	} {
		expectExpand(t, "example", example(), l, ints(x.detected), ints(x.want))
	}
}

// TestExpandLists has detection over several steps, lists that lack some of the faults, repeated faults and those of other models.
func TestExpandLists(t *testing.T) {
	for _, x := range []struct{ circuit, faults, detected, want string }{
		{stairs, "0 1, 1 1, 2 1, 3 1, 4 1, 5 1, 6 1", "0", "0 2 4 6"},
		{stairs, "0 1, 1 1, 2 1, 3 1, 4 1, 5 1, 6 1", "1", "1 2 4 6"},
		{stairs, "0 1, 1 1, 2 1, 3 1, 4 1, 5 1, 6 1", "3", "3 4 6"},
		{stairs, "0 1, 1 1, 2 1, 3 1, 4 1, 5 1, 6 1", "5", "5 6"},
		{stairs, "0 1, 1 1, 2 1, 3 1, 4 1, 5 1, 6 1", "6", "6"},
		{stairs, "0 1, 1 1, 2 1, 3 1, 4 1, 5 1, 6 1", "5 3 5", "3 4 5 6"},
		{stairs, "0 1, 1 1, 2 1, 3 1, 4 1, 5 1, 6 1", "6 4 2 0", "0 2 4 6"},
		{stairs, "6 1, 5 1, 4 1, 3 1, 2 1, 1 1, 0 1", "6", "0 2 4 6"},
		{stairs, "6 1, 5 1, 4 1, 3 1, 2 1, 1 1, 0 1", "2 3", "0 2 3"},
		{stairs, "0 1, 1 1, 3 1, 4 1, 5 1, 6 1", "0", "0"}, // the class of g lacks
		{stairs, "0 1, 1 1, 3 1, 4 1, 5 1, 6 1", "0 3", "0 3 5"},
		{stairs, "0 1, 6 1", "0", "0"},
		{stairs, "0 1, 4.0 1, 6 1", "0", "0 1"}, // h lacks
		{stairs, "0 1, 2.0 1, 4.0 1, 6.0 1, 6 1, 2 1, 2.0 1", "1", "0 1 2 3 4 5 6"},
		{stairs, "0 0, 0 1, 6 0, 4 0, 2 0, 2 1", "3", "0 2 3 4"},
		{stairs, "0 0, 0 1, 6 0, 4 0, 2 0, 2 1", "1", "1 5"},
		{stairs, "2 1, 4 1, 2 1, 4 1, 0 1, 0 1", "4", "0 1 2 3 4 5"},
		{stairs, "2 1, 4 1, 2 1, 4 1, 0 1, 0 1", "2", "0 1 2 3"},
		{stairs, "2 1, 4 1, 2 1, 4 1, 0 1, 0 1", "3", "1 3"},
		{stairs, "slow 0 1, 0 1, slow 2 1, 2 1, wired 0 1 1, slow 0 1", "0", "0 5"},
		{stairs, "slow 0 1, 0 1, slow 2 1, 2 1, wired 0 1 1, slow 0 1", "1", "1 3"},
		{stairs, "slow 0 1, 0 1, slow 2 1, 2 1, wired 0 1 1, slow 0 1", "4 2", "2 4"},
		{stairs, "strong 0 1, strong 1 0, strong 0 1, wired 0 1 0, wired 0 1 0", "0 4", "0 2 3 4"},
		{chained, "3 0, 0 0, 1 1, 6 1, 4 0, 0 1", "1", "0 1 3"},
		{chained, "3 0, 0 0, 1 1, 6 1, 4 0, 0 1", "4", "3 4"},
		{chained, "3 0, 0 0, 1 1, 6 1, 4 0, 0 1", "5", "5"},
		{stairs, "", "", ""},
		{stairs, "0 1, 1 1", "", ""},
	} {
		expectExpand(t, x.circuit+": "+x.faults, read(x.circuit), list(x.faults), ints(x.detected), ints(x.want))
	}
	expectExpand(t, "without nodes", api.Circuit{}, nil, nil, nil)
	expectExpand(t, "an empty list", example(), []api.Fault{}, []int{}, nil)
}

// TestExpandRandom compares random circuits with the chapter's words: each index alone, and some at once.
func TestExpandRandom(t *testing.T) {
	r := random(146)
	steps := 0
	for i, c := range circuits(60, 16) {
		for k, l := range r.faultLists(c) {
			name := "circuit " + strconv.Itoa(i) + ", list " + strconv.Itoa(k)
			for n := range l {
				if n%5 == k%5 {
					want := expandOf(c, l, []int{n})
					expectExpand(t, name, c, l, []int{n}, want)
					steps = max(steps, stepsOf(c, l, n))
				}
			}
			for range 3 {
				if len(l) > 0 {
					detected := r.numbers(r.below(2*len(l)), 0, len(l))
					expectExpand(t, name, c, l, detected, expandOf(c, l, detected))
				}
			}
		}
	}
	if steps < 3 {
		t.Errorf("at most %d steps", steps)
	}
}

// stepsOf returns the number of dominances that follow on the class of a fault.
func stepsOf(c api.Circuit, l []api.Fault, i int) int {
	dominances := dominancesOf(c, l)
	class := slices.IndexFunc(classesOf(c, l), func(class []int) bool { return slices.Contains(class, i) })
	for steps := 0; ; steps++ {
		k := slices.IndexFunc(dominances, func(x [2]int) bool { return x[0] == class })
		if k < 0 {
			return steps
		}
		class = dominances[k][1]
	}
}

// TestExpandLarge has a long way over dominances, and very many indices.
func TestExpandLarge(t *testing.T) {
	nodes := []api.Node{in(api.Input)}
	var l []api.Fault
	for len(nodes)+2 <= api.MaxNodes {
		n := len(nodes)
		nodes = append(nodes, in(api.Input), in(api.Or, n-1, n))
	}
	for i := range nodes {
		l = append(l, stuck(i, -1, 0))
	}
	c := of([]int{len(nodes) - 1}, nodes...)
	want := []int{1} // the input of the first gate, and all gates
	for i := 2; i < len(nodes); i += 2 {
		want = append(want, i)
	}
	expectExpand(t, "a long chain", c, l, []int{1}, want)
	every := make([]int, 3*api.MaxFaults)
	for i := range every {
		every[i] = len(l) - 1 - i%len(l)
	}
	all := slices.Clone(every[:len(l)])
	slices.Sort(all)
	if got, e := Expand(c, l, every); e != api.OK || !slices.Equal(got, all) {
		t.Errorf("%d faults with error %d", len(got), e)
	}
}
