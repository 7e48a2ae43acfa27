package memories_test

import (
	"slices"
	"strconv"

	"probecard/api"
	"probecard/logic"
	. "probecard/memories"
)

// The definitions of the chapter, word by word and without regard to time.

// matching reports whether an index matches an address.
func matching(i int, addr []api.Value) bool {
	digits := []byte(strconv.FormatInt(int64(i), 2))
	slices.Reverse(digits)
	for k, digit := range digits {
		if digit == '1' && (k >= len(addr) || addr[k] == api.V0) {
			return false
		}
	}
	for k, v := range addr {
		if v == api.V1 && (k >= len(digits) || digits[k] == '0') {
			return false
		}
	}
	return true
}

// bit returns a bit of a word, as a gate reads it, and X if the word has none there.
func bit(word []api.Value, b int) api.Value {
	if b < len(word) && word[b] <= api.V1 {
		return word[b]
	}
	return api.VX
}

// lookAt returns the word at an address.
func lookAt(words [][]api.Value, addr []api.Value) []api.Value {
	if len(words) == 0 {
		return nil
	}
	var out []api.Value
	for b := range words[0] {
		seen := map[api.Value]bool{}
		for i, word := range words {
			if matching(i, addr) {
				seen[bit(word, b)] = true
			}
		}
		v := api.VX
		for w := range seen {
			if len(seen) == 1 {
				v = w
			}
		}
		out = append(out, v)
	}
	return out
}

// storeAt returns the words after a write.
func storeAt(words [][]api.Value, addr, data []api.Value, enable api.Value) [][]api.Value {
	var out [][]api.Value
	for i, word := range words {
		var l []api.Value
		for b := range word {
			old, v := bit(word, b), bit(data, b)
			switch {
			case enable == api.V0 || !matching(i, addr):
				l = append(l, old)
			case enable == api.V1 && allKnown(addr) || old == v:
				l = append(l, v)
			default:
				l = append(l, api.VX)
			}
		}
		out = append(out, l)
	}
	return out
}

// netsOf returns the values of all nets of a valid circuit, each from those that it reads.
func netsOf(c api.Circuit, s State, in []api.Value) []api.Value {
	l := make([]api.Value, len(c.Nodes))
	done := make([]bool, len(c.Nodes))
	var find func(net int) api.Value
	find = func(net int) api.Value {
		if done[net] {
			return l[net]
		}
		done[net] = true
		n := c.Nodes[net]
		switch n.Kind {
		case api.Input:
			l[net] = in[rank(c, net)]
		case api.Dff:
			l[net] = s.Dff[rank(c, net)]
		case api.Mem:
			l[net] = s.Read[n.Mem][n.Bit]
		default:
			var pins []api.Value
			for _, from := range n.In {
				pins = append(pins, find(from))
			}
			l[net] = logic.Eval(n.Kind, pins...)
		}
		return l[net]
	}
	for net := range c.Nodes {
		find(net)
	}
	return l
}

// rank returns how many nodes before a node are of its kind.
func rank(c api.Circuit, node int) int {
	i := 0
	for _, n := range c.Nodes[:node] {
		if n.Kind == c.Nodes[node].Kind {
			i++
		}
	}
	return i
}

// nextOf returns the state after a cycle in which the nets have given values.
func nextOf(c api.Circuit, s State, nets []api.Value) State {
	var next State
	for _, n := range c.Nodes {
		if n.Kind == api.Dff {
			next.Dff = append(next.Dff, bit(nets, n.In[0]))
		}
	}
	for m, memory := range c.Mems {
		addr := at(nets, memory.Addr)
		next.Read = append(next.Read, lookAt(s.Words[m], addr))
		next.Words = append(next.Words, storeAt(s.Words[m], addr, at(nets, memory.Data), nets[memory.Write]))
	}
	return next
}

// at returns the values of some nets.
func at(nets []api.Value, l []int) []api.Value {
	var out []api.Value
	for _, net := range l {
		out = append(out, nets[net])
	}
	return out
}

// errorOf returns the error of a state and inputs for a valid circuit.
func errorOf(c api.Circuit, s State, in []api.Value) api.Errno {
	if len(in) != count(c, api.Input) || len(s.Dff) != count(c, api.Dff) || len(s.Words) != len(c.Mems) || len(s.Read) != len(c.Mems) {
		return api.ErrWidth
	}
	for m, memory := range c.Mems {
		others := func(w []api.Value) bool { return len(w) != len(memory.Data) }
		if len(s.Words[m]) != 1<<len(memory.Addr) || slices.ContainsFunc(s.Words[m], others) || others(s.Read[m]) {
			return api.ErrWidth
		}
	}
	all := append(slices.Concat(s.Words...), s.Read...)
	if slices.ContainsFunc(in, func(v api.Value) bool { return v > 3 }) || slices.ContainsFunc(append(slices.Concat(all...), s.Dff...), func(v api.Value) bool { return v > 2 }) {
		return api.ErrArg
	}
	return api.OK
}

// count returns the number of nodes of a kind.
func count(c api.Circuit, kind api.Kind) int {
	n := 0
	for _, node := range c.Nodes {
		if node.Kind == kind {
			n++
		}
	}
	return n
}

// allBelow reports whether each value of a is below the one of b at its place.
func allBelow(a, b []api.Value) bool {
	return slices.EqualFunc(a, b, func(x, y api.Value) bool { return x == y || x == api.VX })
}

// allKnown reports whether all values are 0 or 1.
func allKnown(l []api.Value) bool {
	return !slices.ContainsFunc(l, func(v api.Value) bool { return v > api.V1 })
}

// sameWords reports whether two lists of words have the same lengths and values.
func sameWords(a, b [][]api.Value) bool {
	return slices.EqualFunc(a, b, func(v, w []api.Value) bool { return slices.Equal(v, w) })
}

// sameState reports whether two states have the same lengths and values.
func sameState(a, b State) bool {
	return slices.Equal(a.Dff, b.Dff) && slices.EqualFunc(a.Words, b.Words, sameWords) && sameWords(a.Read, b.Read)
}

// belowState reports whether two states have the same lengths, and the values of a are below those of b.
func belowState(a, b State) bool {
	below := func(a, b [][]api.Value) bool { return slices.EqualFunc(a, b, allBelow) }
	return allBelow(a.Dff, b.Dff) && slices.EqualFunc(a.Words, b.Words, below) && below(a.Read, b.Read)
}
