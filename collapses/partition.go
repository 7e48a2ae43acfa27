package collapses

import (
	"slices"

	"probecard/api"
)

// none stands for no class.
const none = -1

// partition is a list of faults by its classes.
type partition struct {
	list    []api.Fault
	classes [][]int     // the indices of the faults of each class
	ends    []api.Fault // the end of the chains of each class
	next    []int       // the class that each class precedes, or none; there is at most one
}

// partitionOf returns the partition of a list of faults of a circuit.
func partitionOf(c api.Circuit, l []api.Fault) (partition, api.Errno) {
	if e := check(c, l); e != api.OK {
		return partition{}, e
	}
	x := chainsOf(c)
	p := gather(l, x.end)
	p.link(x.preceded)
	return p, api.OK
}

// gather returns the classes of a list, in which find returns the end that represents the class of a fault.
func gather(l []api.Fault, find func(f api.Fault) api.Fault) partition {
	p := partition{list: l}
	members := make(map[api.Fault][]int)
	for i, f := range l {
		end := find(f)
		if len(members[end]) == 0 {
			p.ends = append(p.ends, end)
		}
		members[end] = append(members[end], i)
	}
	p.classes = make([][]int, len(p.ends))
	for k, end := range p.ends {
		p.classes[k] = slices.Clip(members[end])
	}
	return p
}

// link finds the class that each class precedes. The function preceded returns the end that represents it.
func (p *partition) link(preceded func(end api.Fault) (api.Fault, bool)) {
	numbers := make(map[api.Fault]int, len(p.ends))
	for k, end := range p.ends {
		numbers[end] = k
	}
	p.next = make([]int, len(p.ends))
	for k, end := range p.ends {
		p.next[k] = none
		f, exists := preceded(end)
		if next, isListed := numbers[f]; exists && isListed {
			p.next[k] = next
		}
	}
}

// reps returns the first fault of each class.
func (p partition) reps() []api.Fault {
	reps := make([]api.Fault, len(p.classes))
	for k, class := range p.classes {
		reps[k] = p.list[class[0]]
	}
	return reps
}

// dominances returns all pairs of a class and one that it precedes.
func (p partition) dominances() [][2]int {
	var pairs [][2]int
	for k, next := range p.next {
		if next != none {
			pairs = append(pairs, [2]int{k, next})
		}
	}
	return slices.Clip(pairs)
}

// core returns the first index of each class that no class precedes.
func (p partition) core() []int {
	isPreceded := make([]bool, len(p.classes))
	for _, pair := range p.dominances() {
		isPreceded[pair[1]] = true
	}
	var core []int
	for k, class := range p.classes {
		if !isPreceded[k] {
			core = append(core, class[0])
		}
	}
	return slices.Clip(core)
}

// expand returns the indices of all faults whose detection follows from that of the faults with some indices.
func (p partition) expand(detected []int) []int {
	numbers := p.numbers()
	isReached := make([]bool, len(p.classes))
	for _, i := range detected {
		for k := numbers[i]; k != none && !isReached[k]; k = p.next[k] {
			isReached[k] = true
		}
	}
	var l []int
	for i, k := range numbers {
		if isReached[k] {
			l = append(l, i)
		}
	}
	return slices.Clip(l)
}

// numbers returns the class of each fault of the list.
func (p partition) numbers() []int {
	numbers := make([]int, len(p.list))
	for k, class := range p.classes {
		for _, i := range class {
			numbers[i] = k
		}
	}
	return numbers
}
