package faults_test

import (
	"math"
	"regexp"
	"slices"
	"strconv"

	"probecard/api"
	"probecard/netlists"
)

// The chapter's definitions, word by word.

// dependsOn returns the nets that a net of a valid circuit depends on.
func dependsOn(c api.Circuit, net int) map[int]bool {
	reached := map[int]bool{net: true}
	for waiting := []int{net}; len(waiting) > 0; waiting = waiting[1:] {
		n := c.Nodes[waiting[0]]
		if n.Kind == api.Dff {
			continue
		}
		for _, i := range n.In {
			if !reached[i] {
				reached[i] = true
				waiting = append(waiting, i)
			}
		}
	}
	return reached
}

// checkError returns the error of a fault.
func checkError(c api.Circuit, f api.Fault) api.Errno {
	isNode := func(i int) bool { return 0 <= i && i < len(c.Nodes) }
	if e := netlists.Check(c); e != api.OK {
		return e
	}
	if len(c.Mems) != 0 {
		return api.ErrKind
	}
	if f.Model != api.Stuck && f.Model != api.Slow && f.Model != api.Wired && f.Model != api.Strong {
		return api.ErrArg
	}
	if f.Value != api.V0 && f.Value != api.V1 {
		return api.ErrArg
	}
	if !isNode(f.Line.Node) {
		return api.ErrArg
	}
	if pin := f.Line.Pin; pin != -1 && (pin < 0 || pin >= len(c.Nodes[f.Line.Node].In)) {
		return api.ErrArg
	}
	if f.Model == api.Stuck || f.Model == api.Slow {
		if f.Other != 0 {
			return api.ErrArg
		}
		return api.OK
	}
	return bridgeError(c, f, isNode)
}

// bridgeError returns the error of a bridge for which the conditions 1 to 3 do not apply.
func bridgeError(c api.Circuit, f api.Fault, isNode func(i int) bool) api.Errno {
	a, b := f.Line.Node, f.Other
	if f.Line.Pin != -1 || !isNode(b) || a == b {
		return api.ErrArg
	}
	if f.Model == api.Wired && a > b {
		return api.ErrArg
	}
	if f.Model == api.Strong && f.Value != api.V0 {
		return api.ErrArg
	}
	if c.Nodes[a].Kind == api.Tri || c.Nodes[b].Kind == api.Tri {
		return api.ErrKind
	}
	if dependsOn(c, a)[b] || dependsOn(c, b)[a] {
		return api.ErrLoop
	}
	return api.OK
}

// linesOf returns the lines of a circuit.
func linesOf(c api.Circuit) []api.Line {
	var l []api.Line
	for i, n := range c.Nodes {
		l = append(l, api.Line{Node: i, Pin: -1})
		for k := range n.In {
			l = append(l, api.Line{Node: i, Pin: k})
		}
	}
	return l
}

// allOf returns the faults of a model of a valid circuit without memories.
func allOf(c api.Circuit, m api.Model) []api.Fault {
	var l []api.Fault
	if m <= api.Slow {
		for _, line := range linesOf(c) {
			l = append(l, api.Fault{Model: m, Line: line}, api.Fault{Model: m, Line: line, Value: api.V1})
		}
		return l
	}
	var cones []map[int]bool
	for i := range c.Nodes {
		cones = append(cones, dependsOn(c, i))
	}
	for a := range c.Nodes {
		for b := range c.Nodes {
			if a == b || cones[a][b] || cones[b][a] || c.Nodes[a].Kind == api.Tri || c.Nodes[b].Kind == api.Tri {
				continue
			}
			f := api.Fault{Model: m, Line: api.Line{Node: a, Pin: -1}, Other: b}
			if m == api.Strong || a < b {
				l = append(l, f)
			}
			if m == api.Wired && a < b {
				f.Value = api.V1
				l = append(l, f)
			}
		}
	}
	return l
}

// compareOf compares faults by the numbers that order them.
func compareOf(a, b api.Fault) int {
	numbers := func(f api.Fault) []int {
		return []int{int(f.Model), f.Line.Node, f.Line.Pin, f.Other, int(f.Value)}
	}
	return slices.Compare(numbers(a), numbers(b))
}

// textOf returns the text of a fault.
func textOf(f api.Fault) string {
	node, pin, other, value := strconv.Itoa(f.Line.Node), "", strconv.Itoa(f.Other), strconv.Itoa(int(f.Value))
	if f.Line.Pin != -1 {
		pin = "." + strconv.Itoa(f.Line.Pin)
	}
	switch f.Model {
	case api.Stuck:
		return "stuck " + node + pin + " " + value
	case api.Slow:
		return "slow " + node + pin + " " + value
	case api.Wired:
		return "wired " + node + " " + other + " " + value
	case api.Strong:
		return "strong " + node + " " + other
	}
	return ""
}

// number matches the numbers of texts that Parse accepts.
const number = `(0|[1-9][0-9]{0,8})`

// The texts of faults.
var (
	lineFault   = regexp.MustCompile(`^(stuck|slow) ` + number + `(?:\.` + number + `)? ([01])$`)
	wiredFault  = regexp.MustCompile(`^wired ` + number + ` ` + number + ` ([01])$`)
	strongFault = regexp.MustCompile(`^strong ` + number + ` ` + number + `$`)
)

// parseOf returns the fault with a text, and its error.
func parseOf(s string) (api.Fault, api.Errno) {
	num := func(s string) int {
		n, _ := strconv.Atoi(s)
		return n
	}
	if m := lineFault.FindStringSubmatch(s); m != nil {
		f := api.Fault{Line: api.Line{Node: num(m[2]), Pin: -1}, Value: api.Value(num(m[4]))}
		if m[1] == "slow" {
			f.Model = api.Slow
		}
		if m[3] != "" {
			f.Line.Pin = num(m[3])
		}
		return f, api.OK
	}
	if m := wiredFault.FindStringSubmatch(s); m != nil {
		return api.Fault{Model: api.Wired, Line: api.Line{Node: num(m[1]), Pin: -1}, Other: num(m[2]), Value: api.Value(num(m[3]))}, api.OK
	}
	if m := strongFault.FindStringSubmatch(s); m != nil {
		return api.Fault{Model: api.Strong, Line: api.Line{Node: num(m[1]), Pin: -1}, Other: num(m[2])}, api.OK
	}
	return api.Fault{}, api.ErrForm
}

// models returns the models, and some numbers above Strong.
func models() []api.Model {
	return []api.Model{api.Stuck, api.Slow, api.Wired, api.Strong, 4, 5, 128, 254, 255}
}

// around returns the numbers from two below least to two above most, and numbers far below and above.
func around(least, most int) []int {
	l := []int{math.MinInt, -1 << 32, -1000}
	for i := least - 2; i <= most+2; i++ {
		l = append(l, i)
	}
	return append(l, 1000, 1<<32, 1<<32+1, math.MaxInt)
}

// product returns all faults with these fields.
func product(models []api.Model, nodes, pins, others []int, values []api.Value) []api.Fault {
	var l []api.Fault
	for _, m := range models {
		for _, node := range nodes {
			for _, pin := range pins {
				for _, other := range others {
					for _, v := range values {
						l = append(l, api.Fault{Model: m, Line: api.Line{Node: node, Pin: pin}, Value: v, Other: other})
					}
				}
			}
		}
	}
	return l
}
