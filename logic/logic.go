// Package logic implements the logic functions of gates over the values 0, 1, X and Z (layer 1). See shared/doc/01-logic.md.
package logic

import (
	"slices"

	"probecard/api"
)

// span is a range of numbers of inputs.
type span struct{ least, most int }

// spans holds the numbers of inputs that each kind allows.
var spans = [...]span{
	api.Input: {0, 0},
	api.Zero:  {0, 0},
	api.One:   {0, 0},
	api.Buf:   {1, 1},
	api.Not:   {1, 1},
	api.And:   {2, api.MaxFanin},
	api.Nand:  {2, api.MaxFanin},
	api.Or:    {2, api.MaxFanin},
	api.Nor:   {2, api.MaxFanin},
	api.Xor:   {2, api.MaxFanin},
	api.Xnor:  {2, api.MaxFanin},
	api.Mux:   {3, 3},
	api.Tri:   {2, 2},
	api.Bus:   {1, api.MaxFanin},
	api.Dff:   {1, 1},
	api.Mem:   {0, 0},
}

// characters holds the character of each value.
var characters = [...]byte{api.V0: '0', api.V1: '1', api.VX: 'X', api.VZ: 'Z'}

// Clean returns v, or VX if v is above VZ.
func Clean(v api.Value) api.Value {
	if v > api.VZ {
		return api.VX
	}
	return v
}

// Read returns the value that a gate reads: V0 and V1 as they are, otherwise VX.
func Read(v api.Value) api.Value {
	if Known(v) {
		return v
	}
	return api.VX
}

// Known reports whether v is V0 or V1.
func Known(v api.Value) bool { return v == api.V0 || v == api.V1 }

// Below reports whether a is below b in the information order.
func Below(a, b api.Value) bool {
	a, b = Clean(a), Clean(b)
	return a == b || a == api.VX
}

// some reports whether a value of l is want, as take sees it (Read for gates, Clean where Z counts as Z).
func some(l []api.Value, want api.Value, take func(api.Value) api.Value) bool {
	return slices.ContainsFunc(l, func(v api.Value) bool { return take(v) == want })
}

// Not returns the complement of a.
func Not(a api.Value) api.Value {
	switch Read(a) {
	case api.V0:
		return api.V1
	case api.V1:
		return api.V0
	}
	return api.VX
}

// And returns the conjunction of its arguments.
func And(l ...api.Value) api.Value {
	switch {
	case some(l, api.V0, Read):
		return api.V0
	case some(l, api.VX, Read):
		return api.VX
	}
	return api.V1
}

// Or returns the disjunction of its arguments.
func Or(l ...api.Value) api.Value {
	switch {
	case some(l, api.V1, Read):
		return api.V1
	case some(l, api.VX, Read):
		return api.VX
	}
	return api.V0
}

// Xor returns the exclusive disjunction of its arguments.
func Xor(l ...api.Value) api.Value {
	if some(l, api.VX, Read) {
		return api.VX
	}
	odd := api.V0
	for _, v := range l {
		odd ^= v // no argument is X, so each is 0 or 1
	}
	return odd
}

// Mux returns a if sel is 0 and b if sel is 1.
func Mux(sel, a, b api.Value) api.Value {
	a, b = Read(a), Read(b)
	switch Read(sel) {
	case api.V0:
		return a
	case api.V1:
		return b
	}
	if a == b {
		return a // the choice does not matter; two X are X as well
	}
	return api.VX
}

// Tri returns data if enable is 1 and VZ if it is 0.
func Tri(enable, data api.Value) api.Value {
	switch Read(enable) {
	case api.V0:
		return api.VZ
	case api.V1:
		return Read(data)
	}
	return api.VX
}

// Bus returns the value of a net with several drivers.
func Bus(l ...api.Value) api.Value {
	switch {
	case some(l, api.VX, Clean) || Conflict(l...):
		return api.VX
	case some(l, api.V0, Clean):
		return api.V0
	case some(l, api.V1, Clean):
		return api.V1
	}
	return api.VZ
}

// Conflict reports whether two drivers have different known values.
func Conflict(l ...api.Value) bool {
	return some(l, api.V0, Clean) && some(l, api.V1, Clean)
}

// Fanin returns the least and the greatest number of inputs of a node, and 0 and -1 for a kind above Mem.
func Fanin(kind api.Kind) (least, most int) {
	if kind > api.Mem {
		return 0, -1
	}
	return spans[kind].least, spans[kind].most
}

// Eval returns the output of a combinational node, and VX if the kind has no function or does not allow that number of inputs.
func Eval(kind api.Kind, in ...api.Value) api.Value {
	least, most := Fanin(kind)
	if len(in) < least || len(in) > most {
		return api.VX
	}
	switch kind {
	case api.Zero:
		return api.V0
	case api.One:
		return api.V1
	case api.Buf:
		return Read(in[0])
	case api.Not:
		return Not(in[0])
	case api.And:
		return And(in...)
	case api.Nand:
		return Not(And(in...))
	case api.Or:
		return Or(in...)
	case api.Nor:
		return Not(Or(in...))
	case api.Xor:
		return Xor(in...)
	case api.Xnor:
		return Not(Xor(in...))
	case api.Mux:
		return Mux(in[0], in[1], in[2])
	case api.Tri:
		return Tri(in[0], in[1])
	case api.Bus:
		return Bus(in...)
	}
	return api.VX
}

// Control returns the controlling value of a kind, if it has one, and otherwise VX and false.
func Control(kind api.Kind) (api.Value, bool) {
	switch kind {
	case api.And, api.Nand:
		return api.V0, true
	case api.Or, api.Nor:
		return api.V1, true
	}
	return api.VX, false
}

// Inverts reports whether a kind inverts.
func Inverts(kind api.Kind) bool {
	switch kind {
	case api.Not, api.Nand, api.Nor, api.Xnor:
		return true
	}
	return false
}

// Text returns the characters of values, one byte each.
func Text(l ...api.Value) string {
	b := make([]byte, len(l))
	for i, v := range l {
		b[i] = characters[Clean(v)]
	}
	return string(b)
}

// Parse returns the values with the given characters, or ErrForm if a byte is not one of them.
func Parse(s string) ([]api.Value, api.Errno) {
	l := make([]api.Value, len(s))
	for i := range len(s) {
		v, ok := valueOf(s[i])
		if !ok {
			return nil, api.ErrForm
		}
		l[i] = v
	}
	return l, api.OK
}

// valueOf returns the value with the given character.
func valueOf(b byte) (api.Value, bool) {
	for v, c := range characters {
		if c == b {
			return api.Value(v), true
		}
	}
	return 0, false
}
