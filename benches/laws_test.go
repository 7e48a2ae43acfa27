package benches_test

import (
	"slices"
	"strconv"
	"strings"
	"testing"

	"probecard/api"
	. "probecard/benches"
)

// P4.3

// expectBack checks that the text of a circuit describes it.
func expectBack(t *testing.T, c api.Circuit) {
	t.Helper()
	s, e := Write(c)
	if e != api.OK {
		t.Errorf("Write of %+v returns error %d", c, e)
	}
	expectCircuit(t, s, c)
}

func TestReadWrite(t *testing.T) {
	expectBack(t, api.Circuit{})
	expectBack(t, example())
	expectBack(t, full())
	expectBack(t, sized(api.MaxText))
	expectBack(t, nodes(api.MaxNodes))
	r := random(3)
	for range 2000 {
		expectBack(t, r.circuit(1+r.below(40)))
	}
}

// TestReadWriteAll has the widest nodes and memories with the longest names.
func TestReadWriteAll(t *testing.T) {
	c := api.Circuit{Nodes: make([]api.Node, 100)}
	for i := range c.Nodes {
		c.Names = append(c.Names, strconv.Itoa(100+i)+strings.Repeat("~", api.MaxName-3))
		if i > 50 {
			c.Nodes[i] = api.Node{Kind: api.Nand, In: []int{1, 2, 3, 4, 5, 6, 7, 8, 9, 10, 11, 12, 13, 14, 15, i - 1}}
		}
	}
	for i := range api.MaxMems {
		m := api.Memory{Write: 99 - i}
		for k := range api.MaxAddr {
			m.Addr = append(m.Addr, 20+k)
		}
		for k := range api.MaxWord {
			m.Data = append(m.Data, 60+k)
		}
		c.Mems = append(c.Mems, m)
	}
	expectBack(t, c)
}

// TestWriteRead checks that texts which Read accepts describe the same circuit after Write, with all sorts of mutations.
func TestWriteRead(t *testing.T) {
	r := random(4)
	accepted, refused := 0, map[api.Errno]int{}
	for range 6000 {
		text := r.mutated(strings.Join(layout(r.circuit(1+r.below(8))), ""))
		expectMeaning(t, text)
		c, f := Read(text)
		if f == (Fault{}) {
			accepted++
			expectBack(t, c)
		} else {
			refused[f.E]++
		}
	}
	if accepted < 100 || len(refused) < 4 {
		t.Errorf("%d texts are accepted, the others refused with the errors %v", accepted, refused)
	}
}

// mutated returns a text with a few bytes, tokens or lines removed, inserted, replaced or exchanged.
func (r *random) mutated(text string) string {
	parts := append(strings.Fields("( ) = , # INPUT OUTPUT MEMORY MEM AND NOT BUS 0 1 2 a"), "\n", "\n", " ", "\t", "\r", "\x00", "\x80", "~", "#\n", "INPUT(a)\n")
	for range r.below(4) {
		at := r.below(len(text) + 1)
		end := min(len(text), at+r.below(3))
		switch r.below(5) {
		case 0:
			text = text[:at] + text[end:]
		case 1:
			text = text[:at] + parts[r.below(len(parts))] + text[at:]
		case 2:
			text = text[:at] + parts[r.below(len(parts))] + text[end:]
		case 3:
			l := linesOf(text)
			for i, k := range r.permutation(len(l)) {
				if r.below(3) == 0 {
					l[i], l[k] = l[k], l[i]
				}
			}
			text = strings.Join(l, "")
		case 4:
			if l := linesOf(text); len(l) > 0 {
				text += l[r.below(len(l))]
			}
		}
	}
	return text
}

// TestWriteLonger has a text that Read accepts, but whose circuit has a longer text than MaxText.
func TestWriteLonger(t *testing.T) {
	var b strings.Builder
	b.WriteString("INPUT(a)\n")
	pins := strings.Repeat(",a", api.MaxFanin-1)
	for i := range api.MaxNodes - 1 {
		b.WriteString(strconv.Itoa(100000+i) + long(12) + "=OR(a" + pins + ")\n")
	}
	c, f := Read(b.String())
	if f != (Fault{}) || len(c.Nodes) != api.MaxNodes {
		t.Fatalf("Read of %d bytes returns %v", b.Len(), f)
	}
	expectError(t, "a text without bytes 32", c, api.ErrLimit)
}

// gap returns bytes that separate tokens, or none.
func (r *random) gap() string {
	b := make([]byte, r.below(1+r.below(4)))
	for i := range b {
		b[i] = "\t\r "[r.below(3)]
	}
	return string(b)
}

// comment returns a comment, or nothing.
func (r *random) comment() string {
	if r.below(3) > 0 {
		return ""
	}
	b := []byte("#")
	for range r.below(20) {
		if c := byte(r.below(256)); c != '\n' {
			b = append(b, c)
		}
	}
	return string(b)
}

// loose returns a line with other bytes between its tokens, a comment, and lines without tokens around it.
func (r *random) loose(line string) string {
	s := r.gap()
	for _, token := range tokensOf(line) {
		s += token + r.gap()
	}
	s += r.comment() + "\n"
	for range r.below(3) {
		s = r.gap() + r.comment() + "\n" + s
	}
	return s
}

// TestLoose has texts with lines without tokens, comments and bytes between the tokens.
func TestLoose(t *testing.T) {
	r := random(5)
	for range 1000 {
		c := r.circuit(1 + r.below(20))
		text := ""
		for _, line := range layout(c) {
			text += r.loose(line)
		}
		expectCircuit(t, text, c)
		expectCircuit(t, strings.TrimSuffix(text, "\n"), c)
	}
}

// merge returns the elements of two lists, each in its order, in some common order.
func merge[T any](r *random, a, b []T) []T {
	var l []T
	for len(a)+len(b) > 0 {
		if r.below(len(a)+len(b)) < len(a) {
			l, a = append(l, a[0]), a[1:]
		} else {
			l, b = append(l, b[0]), b[1:]
		}
	}
	return l
}

// parts returns the lines of nodes, outputs and memories of a circuit.
func parts(c api.Circuit) (nodes, outs, mems []string) {
	l := layout(c)
	return l[:len(c.Nodes)], l[len(c.Nodes) : len(c.Nodes)+len(c.Outs)], l[len(c.Nodes)+len(c.Outs):]
}

// TestPlaces puts the lines of outputs and memories anywhere among those of the nodes.
func TestPlaces(t *testing.T) {
	r := random(6)
	for range 1000 {
		c := r.circuit(1 + r.below(20))
		nodes, outs, mems := parts(c)
		expectCircuit(t, strings.Join(merge(&r, nodes, merge(&r, outs, mems)), ""), c)
		expectCircuit(t, strings.Join(slices.Concat(mems, outs, nodes), ""), c)
		expectCircuit(t, strings.Join(slices.Concat(outs, nodes, mems), ""), c)
	}
}

// TestOrders puts the lines of nodes in another order: the nodes are renumbered.
func TestOrders(t *testing.T) {
	r := random(7)
	for range 1000 {
		c := r.circuit(1 + r.below(20))
		to := r.permutation(len(c.Nodes))
		nodes, outs, mems := parts(c)
		moved := make([]string, len(nodes))
		for i, line := range nodes {
			moved[to[i]] = line
		}
		expectCircuit(t, strings.Join(slices.Concat(moved, outs, mems), ""), renumber(c, to))
	}
}
