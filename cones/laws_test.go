package cones_test

import (
	"slices"
	"testing"

	"probecard/api"
	. "probecard/cones"
	"probecard/logic"
	"probecard/netlists"
)

// P5.6

// TestFaninFanout checks that a node is in the fanin cone of another one if and only if that one is in its fanout cone.
func TestFaninFanout(t *testing.T) {
	for i, c := range circuits(200, 40) {
		fanins := make([][]int, len(c.Nodes))
		fanouts := make([][]int, len(c.Nodes))
		for n := range c.Nodes {
			fanins[n], _ = Fanin(c, n)
			fanouts[n], _ = Fanout(c, n)
		}
		for a := range c.Nodes {
			for b := range c.Nodes {
				if slices.Contains(fanins[a], b) != slices.Contains(fanouts[b], a) {
					t.Errorf("circuit %d: the fanin cone of %d is %v, the fanout cone of %d is %v", i, a, fanins[a], b, fanouts[b])
				}
			}
		}
	}
}

// valuesOf returns the value of each net. Those that are not combinational have the values start, and the net of forced has the value v.
func valuesOf(c api.Circuit, order []int, start []api.Value, forced int, v api.Value) []api.Value {
	values := slices.Clone(start)
	for _, i := range order {
		switch {
		case i == forced:
			values[i] = v
		case combinational(c, i):
			var pins []api.Value
			for _, net := range c.Nodes[i].In {
				pins = append(pins, values[net])
			}
			values[i] = logic.Eval(c.Nodes[i].Kind, pins...)
		}
	}
	return values
}

// TestDominatorsHold forces each net to each other value: if the net of a dominator keeps its value, so do all observation points.
func TestDominatorsHold(t *testing.T) {
	r := random(31)
	kept, changed := 0, 0
	for i, c := range circuits(400, 25) {
		order, _ := netlists.Order(c)
		points := Points(c)
		start := make([]api.Value, len(c.Nodes))
		for k := range start {
			start[k] = api.Value(r.below(8)) % 5 % 4 // mostly known
		}
		before := valuesOf(c, order, start, -1, 0)
		for n := range c.Nodes {
			dominators, _ := Dominators(c, n)
			for v := range api.VZ + 1 {
				after := valuesOf(c, order, start, n, v)
				differs := slices.ContainsFunc(points, func(p int) bool { return after[p] != before[p] })
				holds := slices.ContainsFunc(dominators, func(d int) bool { return after[d] == before[d] })
				if differs && holds {
					t.Errorf("circuit %d: node %d with the dominators %v: from %v to %v", i, n, dominators, before, after)
				}
				if v != before[n] && holds {
					kept++
				}
				if differs && len(dominators) > 0 {
					changed++
				}
			}
		}
	}
	if kept < 1000 || changed < 500 {
		t.Errorf("%d times a dominator keeps its value, %d times a point changes", kept, changed)
	}
}

// TestDominatorsLevels checks that the levels of a node and its dominators ascend.
func TestDominatorsLevels(t *testing.T) {
	for i, c := range circuits(300, 40) {
		levels, _ := netlists.Levels(c)
		for n := range c.Nodes {
			last := n
			dominators, _ := Dominators(c, n)
			for _, d := range dominators {
				if levels[d] <= levels[last] {
					t.Errorf("circuit %d: node %d has the dominators %v, whose levels do not ascend", i, n, dominators)
				}
				last = d
			}
		}
	}
}

// TestRegionsDominators goes from each node with a path to its stem: the nodes on the way are its first dominators.
func TestRegionsDominators(t *testing.T) {
	walks := 0
	for i, c := range circuits(300, 40) {
		regions, _ := Regions(c)
		for n := range c.Nodes {
			var way []int
			for k := n; regions[k] != k; {
				k = readersOf(c, k)[0]
				way = append(way, k)
			}
			dominators, _ := Dominators(c, n)
			if !hasPath(c, n, -1) {
				continue
			}
			walks += min(len(way), 1)
			if len(way) > len(dominators) || !slices.Equal(dominators[:len(way)], way) {
				t.Errorf("circuit %d: the dominators of %d are %v, and its way to the stem is %v", i, n, dominators, way)
			}
		}
	}
	if walks < 500 {
		t.Errorf("only %d nodes with a path are no stems", walks)
	}
}

// waysOf returns the number of ways from a node to each node, one for each sequence of pins; above two it is two.
func waysOf(c api.Circuit, order []int, n int) []int {
	ways := make([]int, len(c.Nodes))
	for _, i := range order {
		if i == n {
			ways[i] = 1
			continue
		}
		for _, net := range c.Nodes[i].In {
			if combinational(c, i) {
				ways[i] = min(ways[i]+ways[net], 2)
			}
		}
	}
	return ways
}

// TestMeetsWays checks that there are two ways to some node if and only if the fanout reconverges somewhere.
func TestMeetsWays(t *testing.T) {
	seen := map[bool]int{}
	for i, c := range circuits(400, 40) {
		order, _ := netlists.Order(c)
		for n := range c.Nodes {
			meets, _ := Meets(c, n)
			ways := waysOf(c, order, n)
			several := slices.Contains(ways, 2)
			seen[several]++
			if several != (len(meets) > 0) {
				t.Errorf("circuit %d: the fanout of %d reconverges at %v, and there are %v ways to the nodes", i, n, meets, ways)
			}
		}
	}
	if seen[true] < 1000 || seen[false] < 1000 {
		t.Errorf("%v", seen)
	}
}

// TestRenumbered checks that the results are renumbered with the nodes.
func TestRenumbered(t *testing.T) {
	r := random(32)
	for i, c := range circuits(100, 30) {
		to := r.permutation(len(c.Nodes))
		d := renumbered(c, to)
		move := func(l []int) []int {
			out := make([]int, len(l))
			for k, n := range l {
				out[k] = to[n]
			}
			return out
		}
		sorted := func(l []int) []int { return slices.Sorted(slices.Values(move(l))) }
		if got, want := Points(d), sorted(Points(c)); !slices.Equal(got, want) {
			t.Errorf("circuit %d: Points = %v, not %v", i, got, want)
		}
		for n := range c.Nodes {
			before, _ := Dominators(c, n)
			after, _ := Dominators(d, to[n])
			if !slices.Equal(after, move(before)) {
				t.Errorf("circuit %d: Dominators = %v, not %v", i, after, move(before))
			}
			before, _ = Fanout(c, n)
			after, _ = Fanout(d, to[n])
			if !slices.Equal(after, sorted(before)) {
				t.Errorf("circuit %d: Fanout = %v, not %v", i, after, sorted(before))
			}
		}
	}
}
