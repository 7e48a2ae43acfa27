package benches

import (
	"strings"

	"probecard/api"
	"probecard/netlists"
)

// Read parses a circuit. It returns the zero Circuit and the fault of the text, if there is one.
func Read(text string) (api.Circuit, Fault) {
	if len(text) > api.MaxText {
		return api.Circuit{}, Fault{E: api.ErrLimit}
	}
	r := reader{nets: map[string]int{}}
	number := 0
	for line := range strings.SplitSeq(text, "\n") {
		number++
		if e := r.add(number, line); e != api.OK {
			return api.Circuit{}, Fault{E: e, Line: number}
		}
	}
	return r.circuit()
}

// reader holds what the lines of a text mean.
type reader struct {
	statements []numbered
	sums       [memory + 1]int // the number of statements of each form
	nets       map[string]int  // the node of each name
}

// numbered is a statement and its line.
type numbered struct {
	statement
	line int
}

// add takes the next line, whose number is given, or returns its error.
func (r *reader) add(number int, line string) api.Errno {
	s, e := parseLine(line)
	if e != api.OK || s.form == nothing {
		return e
	}
	if _, known := r.nets[s.name]; s.form == node && (known || len(s.name) > api.MaxName) {
		return api.ErrName
	}
	if r.sums[s.form] == most(s.form) {
		return api.ErrLimit
	}
	if s.form == node {
		r.nets[s.name] = r.sums[node]
	}
	r.sums[s.form]++
	r.statements = append(r.statements, numbered{s, number})
	return api.OK
}

// most returns how many lines of a form a text may have.
func most(f form) int {
	if f == memory {
		return api.MaxMems
	}
	return api.MaxNodes
}

// circuit returns the circuit of all statements, or the fault that only the whole text shows.
func (r *reader) circuit() (api.Circuit, Fault) {
	var c api.Circuit
	for _, s := range r.statements {
		nets, ok := r.netsOf(s.names)
		if !ok {
			return api.Circuit{}, Fault{E: api.ErrName, Line: s.line}
		}
		switch s.form {
		case node:
			s.node.In = nets
			c.Nodes = append(c.Nodes, s.node)
			c.Names = append(c.Names, strings.Clone(s.name)) // a part of the text would retain all of it
		case output:
			c.Outs = append(c.Outs, nets...)
		case memory:
			c.Mems = append(c.Mems, api.Memory{Write: nets[0], Addr: nets[1 : 1+s.addr], Data: nets[1+s.addr:]})
		}
	}
	if e := netlists.Check(c); e != api.OK {
		return api.Circuit{}, Fault{E: e}
	}
	return netlists.Copy(c), Fault{} // Addr and Data share memory until here
}

// netsOf returns the nets with the given names, or false if no line defines one of them.
func (r *reader) netsOf(names []string) ([]int, bool) {
	nets := make([]int, len(names))
	for i, name := range names {
		net, known := r.nets[name]
		if !known {
			return nil, false
		}
		nets[i] = net
	}
	return nets, true
}
