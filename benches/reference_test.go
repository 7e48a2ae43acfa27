package benches_test

import (
	"fmt"
	"regexp"
	"slices"
	"strconv"
	"strings"

	"probecard/api"
	. "probecard/benches"
	"probecard/netlists"
)

// kindWords are the words of the kinds from Zero to Dff.
var kindWords = strings.Fields("ZERO ONE BUF NOT AND NAND OR NOR XOR XNOR MUX TRI BUS DFF")

// The parts of the expressions that the forms of lines are.
const (
	gap   = `[\t\r ]*`
	word  = `([!"$-'*+\-./0-9:;<>-~]+)`
	words = `((?:` + word + `(?:` + gap + `,` + gap + word + `)*)?)`
)

// pattern returns the expression of lines with the given tokens.
func pattern(tokens ...string) *regexp.Regexp {
	return regexp.MustCompile(`^` + gap + strings.Join(tokens, gap) + gap + `$`)
}

// The expressions of counts and of the forms. Where a form has words, they are its last group but the two of words itself.
var (
	countForm  = regexp.MustCompile(`^(0|[1-9][0-9]{0,8})$`)
	emptyForm  = pattern(``)
	inputForm  = pattern(`INPUT`, `\(`, word, `\)`)
	nodeForm   = pattern(word, `=`, `(`+strings.Join(kindWords, `|`)+`)`, `\(`, words, `\)`)
	memForm    = pattern(word, `=`, `MEM`, `\(`, word, `,`, word, `\)`)
	outputForm = pattern(`OUTPUT`, `\(`, word, `\)`)
	memoryForm = pattern(`MEMORY`, `\(`, words, `\)`)
)

// meant is what a line means by the expressions above.
type meant struct {
	form  string   // node, output, memory, or empty
	name  string   // of a node
	node  api.Node // of a node, without In
	count int      // of a memory
	names []string // to which the line refers
}

// numbers returns the numbers that counts stand for, or false if a word is no count.
func numbers(words ...string) ([]int, bool) {
	var l []int
	for _, w := range words {
		n, err := strconv.Atoi(w)
		if err != nil || !countForm.MatchString(w) {
			return nil, false
		}
		l = append(l, n)
	}
	return l, true
}

// wordsOf returns the words of the inner part of a list.
func wordsOf(list string) []string {
	var l []string
	for part := range strings.SplitSeq(list, ",") {
		if w := strings.Trim(part, "\t\r "); w != "" {
			l = append(l, w)
		}
	}
	return l
}

// meaningOf returns what a line means, or false if it is of no form.
func meaningOf(line string) (meant, bool) {
	line, _, _ = strings.Cut(line, "#")
	if emptyForm.MatchString(line) {
		return meant{}, true
	}
	if m := inputForm.FindStringSubmatch(line); m != nil {
		return meant{form: "node", name: m[1]}, true
	}
	if m := outputForm.FindStringSubmatch(line); m != nil {
		return meant{form: "output", names: m[1:]}, true
	}
	if m := nodeForm.FindStringSubmatch(line); m != nil {
		kind := api.Kind(slices.Index(kindWords, m[2])) + api.Zero
		return meant{form: "node", name: m[1], node: api.Node{Kind: kind}, names: wordsOf(m[3])}, true
	}
	if m := memForm.FindStringSubmatch(line); m != nil {
		l, ok := numbers(m[2:]...)
		if !ok {
			return meant{}, false
		}
		return meant{form: "node", name: m[1], node: api.Node{Kind: api.Mem, Mem: l[0], Bit: l[1]}}, true
	}
	if m := memoryForm.FindStringSubmatch(line); m != nil {
		if list := wordsOf(m[1]); len(list) >= 2 {
			l, ok := numbers(list[1])
			names := slices.Delete(list, 1, 2)
			return meant{form: "memory", count: append(l, 0)[0], names: names}, ok && l[0] < len(names)
		}
	}
	return meant{}, false
}

// lineError returns the error of a line that stands behind others, of which nodes are those that they define and sums counts their forms.
func lineError(line string, nodes map[string]int, sums map[string]int) api.Errno {
	m, ok := meaningOf(line)
	_, known := nodes[m.name]
	limits := map[string]int{"node": 16384, "output": 16384, "memory": 16, "": 1}
	switch {
	case len(line) > 4096:
		return api.ErrLimit
	case !ok:
		return api.ErrForm
	case m.form == "node" && (known || len(m.name) > 32):
		return api.ErrName
	case sums[m.form] >= limits[m.form]:
		return api.ErrLimit
	}
	return api.OK
}

// meaning returns what Read must return for a text.
func meaning(text string) (api.Circuit, Fault) {
	if len(text) > 1048576 {
		return api.Circuit{}, Fault{E: api.ErrLimit}
	}
	lines := strings.Split(text, "\n")
	nodes, sums := map[string]int{}, map[string]int{}
	for i, line := range lines {
		if e := lineError(line, nodes, sums); e != api.OK {
			return api.Circuit{}, Fault{E: e, Line: i + 1}
		}
		m, _ := meaningOf(line)
		if m.form == "node" {
			nodes[m.name] = sums["node"]
		}
		if m.form != "" {
			sums[m.form]++
		}
	}
	var c api.Circuit
	for i, line := range lines {
		m, _ := meaningOf(line)
		nets := []int{}
		for _, name := range m.names {
			net, known := nodes[name]
			if !known {
				return api.Circuit{}, Fault{E: api.ErrName, Line: i + 1}
			}
			nets = append(nets, net)
		}
		switch m.form {
		case "node":
			c.Nodes = append(c.Nodes, api.Node{Kind: m.node.Kind, In: nets, Mem: m.node.Mem, Bit: m.node.Bit})
			c.Names = append(c.Names, m.name)
		case "output":
			c.Outs = append(c.Outs, nets[0])
		case "memory":
			c.Mems = append(c.Mems, api.Memory{Write: nets[0], Addr: nets[1 : 1+m.count], Data: nets[1+m.count:]})
		}
	}
	if e := netlists.Check(c); e != api.OK {
		return api.Circuit{}, Fault{E: e}
	}
	return c, Fault{}
}

// layout returns the lines that Write must return for a valid circuit.
func layout(c api.Circuit) []string {
	var l []string
	list := func(nets ...int) string {
		s := ""
		for i, net := range nets {
			if i > 0 {
				s += ", "
			}
			s += c.Names[net]
		}
		return s
	}
	for i, n := range c.Nodes {
		switch n.Kind {
		case api.Input:
			l = append(l, fmt.Sprintf("INPUT(%s)\n", c.Names[i]))
		case api.Mem:
			l = append(l, fmt.Sprintf("%s = MEM(%d, %d)\n", c.Names[i], n.Mem, n.Bit))
		default:
			l = append(l, fmt.Sprintf("%s = %s(%s)\n", c.Names[i], kindWords[n.Kind-api.Zero], list(n.In...)))
		}
	}
	for _, net := range c.Outs {
		l = append(l, fmt.Sprintf("OUTPUT(%s)\n", c.Names[net]))
	}
	for _, m := range c.Mems {
		l = append(l, fmt.Sprintf("MEMORY(%s, %d, %s)\n", c.Names[m.Write], len(m.Addr), list(slices.Concat(m.Addr, m.Data)...)))
	}
	return l
}
