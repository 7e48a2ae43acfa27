package benches

import (
	"strconv"
	"strings"

	"probecard/api"
	"probecard/netlists"
)

// Write formats a circuit, or returns its error, or ErrLimit if its text would be longer than MaxText.
func Write(c api.Circuit) (string, api.Errno) {
	if e := netlists.Check(c); e != api.OK {
		return "", e
	}
	var b strings.Builder
	for i, n := range c.Nodes {
		b.WriteString(nodeLine(c, n, c.Names[i]))
	}
	for _, net := range c.Outs {
		b.WriteString(listLine(outputWord, c.Names[net]))
	}
	for _, m := range c.Mems {
		b.WriteString(memoryLine(c, m))
	}
	if b.Len() > api.MaxText {
		return "", api.ErrLimit
	}
	return b.String(), api.OK
}

// listLine returns the line of a word and a list.
func listLine(word string, list ...string) string {
	return word + "(" + strings.Join(list, ", ") + ")\n"
}

// nodeLine returns the line of a node of c.
func nodeLine(c api.Circuit, n api.Node, name string) string {
	word := kindWords[n.Kind]
	switch n.Kind {
	case api.Input:
		return listLine(word, name)
	case api.Mem:
		return name + " = " + listLine(word, strconv.Itoa(n.Mem), strconv.Itoa(n.Bit))
	}
	return name + " = " + listLine(word, namesOf(c, n.In)...)
}

// memoryLine returns the line of a memory of c.
func memoryLine(c api.Circuit, m api.Memory) string {
	list := []string{c.Names[m.Write], strconv.Itoa(len(m.Addr))}
	list = append(list, namesOf(c, m.Addr)...)
	return listLine(memoryWord, append(list, namesOf(c, m.Data)...)...)
}

// namesOf returns the names of nets of c.
func namesOf(c api.Circuit, nets []int) []string {
	names := make([]string, len(nets))
	for i, net := range nets {
		names[i] = c.Names[net]
	}
	return names
}
