package inject

import (
	"slices"
	"strconv"

	"probecard/api"
	"probecard/netlists"
)

// draft is a circuit to which nodes are appended.
type draft struct {
	api.Circuit
	taken map[string]bool // the names of the circuit
	next  int             // the number of the next name that may be free
}

// Cut returns a circuit without fault that behaves like the circuit with the fault.
func Cut(c api.Circuit, f api.Fault) (api.Circuit, api.Errno) {
	if e := check(c, f, false); e != api.OK {
		return api.Circuit{}, e
	}
	d := draftOf(c)
	switch f.Model {
	case api.Stuck:
		d.stick(f)
	case api.Wired:
		d.wire(f)
	case api.Strong:
		d.connect(readersOf(c, f.Line), f.Other)
	}
	if len(d.Nodes) > api.MaxNodes {
		return api.Circuit{}, api.ErrLimit
	}
	d.Nodes, d.Names = slices.Clip(d.Nodes), slices.Clip(d.Names)
	return d.Circuit, api.OK
}

// draftOf returns a draft that is equal to c.
func draftOf(c api.Circuit) *draft {
	d := &draft{Circuit: netlists.Copy(c), taken: make(map[string]bool, len(c.Names))}
	for _, name := range c.Names {
		d.taken[name] = true
	}
	return d
}

// stick makes the readers of a line read a constant.
func (d *draft) stick(f api.Fault) {
	l := readersOf(d.Circuit, f.Line)
	constant := d.add(constantOf(f.Value))
	d.connect(l, constant)
	if buses := d.busesOf(l); len(buses.pins) > 0 {
		one := d.add(api.One)
		d.connect(buses, d.add(api.Tri, one, constant)) // a Bus may read only Tri nodes
	}
}

// constantOf returns the kind of the nodes whose nets have always the value v.
func constantOf(v api.Value) api.Kind {
	if v == api.V0 {
		return api.Zero
	}
	return api.One
}

// wire makes the readers of two nets read a gate of both.
func (d *draft) wire(f api.Fault) {
	a, b := readersOf(d.Circuit, f.Line), readersOf(d.Circuit, outputOf(f.Other))
	gate := d.add(winner(f.Value), f.Line.Node, f.Other)
	d.connect(a, gate)
	d.connect(b, gate)
}

// add appends a node under the next free name, and returns its index.
func (d *draft) add(kind api.Kind, in ...int) int {
	d.Nodes = append(d.Nodes, api.Node{Kind: kind, In: in})
	d.Names = append(d.Names, d.freeName())
	return len(d.Nodes) - 1
}

// freeName returns the next name of the sequence that the circuit does not have.
func (d *draft) freeName() string {
	for {
		name := "fault" + strconv.Itoa(d.next)
		d.next++
		if !d.taken[name] {
			return name
		}
	}
}

// readers are what reads a line: fanin pins, and elements of Outs.
type readers struct {
	pins []api.Line
	outs []int // indices into Outs
}

// readersOf returns the readers of a line of c.
func readersOf(c api.Circuit, l api.Line) readers {
	if l.Pin != output {
		return readers{pins: []api.Line{l}}
	}
	var outs []int
	for i, net := range c.Outs {
		if net == l.Node {
			outs = append(outs, i)
		}
	}
	return readers{netlists.Fanout(c)[l.Node], outs}
}

// busesOf returns the readers of l that are pins of Bus nodes.
func (d *draft) busesOf(l readers) readers {
	var buses readers
	for _, pin := range l.pins {
		if d.Nodes[pin.Node].Kind == api.Bus {
			buses.pins = append(buses.pins, pin)
		}
	}
	return buses
}

// connect makes readers read a net.
func (d *draft) connect(l readers, net int) {
	for _, pin := range l.pins {
		d.Nodes[pin.Node].In[pin.Pin] = net
	}
	for _, i := range l.outs {
		d.Outs[i] = net
	}
}
