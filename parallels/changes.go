package parallels

import (
	"probecard/api"
	"probecard/words"
)

// output is the pin of a line that is the output of a node.
const output = -1

// change is what a line has in some lanes instead of its own values.
type change struct {
	lanes uint64
	word  words.Word
}

// changes are those of the lines that faults affect, with a fault of its own in each lane or with the same one in several.
type changes map[api.Line]change

// add adds those of a fault in some lanes, given the words of all nets without fault.
func (x changes) add(f api.Fault, lanes uint64, good []words.Word) {
	switch f.Model {
	case api.Wired:
		w := words.Eval(winner(f.Value), good[f.Line.Node], good[f.Other])
		x.set(f.Line, lanes, w)
		x.set(outputOf(f.Other), lanes, w)
	case api.Strong:
		x.set(f.Line, lanes, good[f.Other])
	default:
		x.set(f.Line, lanes, words.Fill(f.Value))
	}
}

// set gives a line the values of w in some lanes.
func (x changes) set(l api.Line, lanes uint64, w words.Word) {
	old := x[l]
	x[l] = change{old.lanes | lanes, merge(old.word, w, lanes)}
}

// replacement returns the word that a line has instead of w.
type replacement func(l api.Line, w words.Word) words.Word

// replacement returns that of the changes. A line without change has no lanes in it, and keeps its word.
func (x changes) replacement() replacement {
	return func(l api.Line, w words.Word) words.Word {
		y := x[l]
		return merge(w, y.word, y.lanes)
	}
}

// same is the replacement without changes.
func same(_ api.Line, w words.Word) words.Word { return w }

// merge returns w in some lanes, and old in the others.
func merge(old, w words.Word, lanes uint64) words.Word {
	return words.Word{
		One:  old.One&^lanes | w.One&lanes,
		Zero: old.Zero&^lanes | w.Zero&lanes,
	}
}

// winner returns the kind of a gate of two inputs whose output is v if one of them is.
func winner(v api.Value) api.Kind {
	if v == api.V0 {
		return api.And
	}
	return api.Or
}

// outputOf returns the line that is the output of a node.
func outputOf(node int) api.Line { return api.Line{Node: node, Pin: output} }
