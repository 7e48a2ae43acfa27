package faults

import (
	"strconv"
	"strings"

	"probecard/api"
)

// modelWords holds the word of each model.
var modelWords = [...]string{
	api.Stuck:  "stuck",
	api.Slow:   "slow",
	api.Wired:  "wired",
	api.Strong: "strong",
}

// modelOf returns the model with the given word, or false if there is none.
func modelOf(word string) (api.Model, bool) {
	for m, w := range modelWords {
		if w == word {
			return api.Model(m), true
		}
	}
	return 0, false
}

// Text returns the text of a fault, or the empty string if its model is above Strong.
func Text(f api.Fault) string {
	if f.Model > api.Strong {
		return ""
	}
	words := []string{modelWords[f.Model]}
	if isBridge(f.Model) {
		words = append(words, strconv.Itoa(f.Line.Node), strconv.Itoa(f.Other))
	} else {
		words = append(words, lineText(f.Line))
	}
	if f.Model != api.Strong {
		words = append(words, strconv.Itoa(int(f.Value)))
	}
	return strings.Join(words, " ")
}

// lineText returns the text of a line.
func lineText(l api.Line) string {
	node := strconv.Itoa(l.Node)
	if l.Pin == output {
		return node
	}
	return node + "." + strconv.Itoa(l.Pin)
}

// Parse returns the fault with a text.
func Parse(s string) (api.Fault, api.Errno) {
	f, ok := parse(s)
	if !ok {
		return api.Fault{}, api.ErrForm
	}
	return f, api.OK
}

// parse returns the fault with a text, or false if there is none.
func parse(s string) (api.Fault, bool) {
	words := strings.SplitN(s, " ", 5) // no text has five words, so that the rest of s does not matter
	m, ok := modelOf(words[0])
	words = words[1:]
	switch {
	case !ok:
		return api.Fault{}, false
	case !isBridge(m) && len(words) == 2:
		return parseLineFault(m, words[0], words[1])
	case m == api.Wired && len(words) == 3:
		return parseBridge(m, words[0], words[1], words[2])
	case m == api.Strong && len(words) == 2:
		return parseBridge(m, words[0], words[1], "0") // the text of a Strong fault leaves out its only value
	}
	return api.Fault{}, false
}

// parseLineFault returns the Stuck or Slow fault with a line and a value, or false if one of the words is none.
func parseLineFault(m api.Model, line, value string) (api.Fault, bool) {
	l, isLine := parseLine(line)
	v, isValue := parseValue(value)
	return api.Fault{Model: m, Line: l, Value: v}, isLine && isValue
}

// parseBridge returns the bridge between two nets with a value, or false if one of the words is none.
func parseBridge(m api.Model, a, b, value string) (api.Fault, bool) {
	node, isNode := parseNumber(a)
	other, isOther := parseNumber(b)
	v, isValue := parseValue(value)
	return api.Fault{Model: m, Line: api.Line{Node: node, Pin: output}, Value: v, Other: other}, isNode && isOther && isValue
}

// parseLine returns the line with a text, or false if there is none.
func parseLine(word string) (api.Line, bool) {
	before, after, hasPin := strings.Cut(word, ".")
	node, isNode := parseNumber(before)
	if !hasPin {
		return api.Line{Node: node, Pin: output}, isNode
	}
	pin, isPin := parseNumber(after)
	return api.Line{Node: node, Pin: pin}, isNode && isPin
}

// parseValue returns the value with a text, or false if the text is neither 0 nor 1.
func parseValue(word string) (api.Value, bool) {
	switch word {
	case "0":
		return api.V0, true
	case "1":
		return api.V1, true
	}
	return 0, false
}

// parseNumber returns the number with a text of up to 9 digits, or false if there is none.
func parseNumber(word string) (int, bool) {
	if word == "" || len(word) > 9 || len(word) > 1 && word[0] == '0' {
		return 0, false
	}
	n := 0
	for i := range len(word) {
		if word[i] < '0' || word[i] > '9' {
			return 0, false
		}
		n = 10*n + int(word[i]-'0')
	}
	return n, true
}
