package cones

import (
	"slices"

	"probecard/api"
	"probecard/netlists"
)

// none stands for the nearest dominator of a node without a path.
const none = -1

// Dominators returns the dominators of a node, in the order in which paths pass them.
func Dominators(c api.Circuit, n int) ([]int, api.Errno) {
	order, e := netlists.Order(c)
	switch {
	case e != api.OK:
		return nil, e
	case !isNode(c, n):
		return nil, api.ErrArg
	}
	nearest := nearestOf(c, order)
	var l []int
	for i := nearest[n]; isNode(c, i); i = nearest[i] { // neither none nor the exit is a node
		l = append(l, i)
	}
	return slices.Clip(l), api.OK
}

// nearestOf returns, for each node, the dominator that paths pass first, or none if there is no path.
// The other dominators of a node are those of its nearest one, so that they form a chain.
// All chains end at the exit, which stands behind all nodes as if each path went on to it from its observation point.
func nearestOf(c api.Circuit, order []int) []int {
	exit := len(order)
	place := make([]int, exit+1)
	for k, i := range order {
		place[i] = k
	}
	place[exit] = exit
	points, next := observed(c), readers(c)
	nearest := make([]int, exit)
	for _, i := range slices.Backward(order) {
		nearest[i] = exit
		if !points[i] {
			nearest[i] = common(next[i], nearest, place)
		}
	}
	return nearest
}

// common returns the first node that all paths from the nodes of l pass, or none if there is no path.
// It follows the chains of these nodes, on which places ascend, to where they meet.
func common(l, nearest, place []int) int {
	exit := len(nearest)
	meet := none
nodes:
	for _, i := range l {
		if nearest[i] == none {
			continue
		}
		if meet == none {
			meet = i
		}
		for meet != i {
			if place[meet] < place[i] {
				meet = nearest[meet]
			} else {
				i = nearest[i]
			}
			if meet == exit { // whatever the other nodes have in common
				break nodes
			}
		}
	}
	return meet
}
