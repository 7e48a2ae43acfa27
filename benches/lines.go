package benches

import (
	"iter"
	"strings"

	"probecard/api"
	"probecard/netlists"
)

// form says what a line adds to the circuit.
type form uint8

const (
	nothing form = iota // of a line without tokens
	node
	output
	memory
)

// statement is the meaning of a line. Names stay names, as a later line may define them.
type statement struct {
	form  form
	name  string   // of a node
	node  api.Node // of a node, without In
	addr  int      // of a memory: the number of nets of Addr
	names []string // of the nets that the line refers to, in its order
}

// parseLine returns the meaning of a line, or its error apart from those that other lines cause.
func parseLine(line string) (statement, api.Errno) {
	if len(line) > api.MaxLine {
		return statement{}, api.ErrLimit
	}
	l, ok := split(line)
	if !ok {
		return statement{}, api.ErrForm
	}
	s, ok := statementOf(l)
	if !ok {
		return statement{}, api.ErrForm
	}
	return s, api.OK
}

// split returns the tokens of a line, or false if it has a malformed byte.
func split(line string) ([]string, bool) {
	var l []string
	for token, ok := range tokens(line) {
		if !ok {
			return nil, false
		}
		l = append(l, token)
	}
	return l, true
}

// tokens yields the tokens of a line, each with true. At a malformed byte it yields false and ends.
func tokens(line string) iter.Seq2[string, bool] {
	return func(yield func(token string, ok bool) bool) {
		rest, _, _ := strings.Cut(line, "#")
		for {
			rest = strings.TrimLeft(rest, "\t\r ")
			if rest == "" {
				return
			}
			n := tokenLen(rest)
			if !yield(rest[:n], n > 0) || n == 0 {
				return
			}
			rest = rest[n:]
		}
	}
}

// tokenLen returns the length of the token at the beginning of s, which is not empty, and 0 if a malformed byte is there.
func tokenLen(s string) int {
	if isMark(s[:1]) {
		return 1
	}
	n := 0
	for n < len(s) && netlists.IsName(s[n:n+1]) { // words and names consist of the same bytes
		n++
	}
	return n
}

// isMark reports whether a token is no word.
func isMark(token string) bool {
	switch token {
	case "(", ")", "=", ",":
		return true
	}
	return false
}

// statementOf returns the meaning of a line with the given tokens, or false if it is of none of the forms.
func statementOf(l []string) (statement, bool) {
	switch {
	case len(l) == 0:
		return statement{}, true
	case len(l) > 1 && l[1] == "=":
		return definition(l)
	}
	words, ok := list(l[1:])
	switch {
	case !ok:
		return statement{}, false
	case l[0] == kindWords[api.Input] && len(words) == 1:
		return statement{form: node, name: words[0], node: api.Node{Kind: api.Input}}, true
	case l[0] == outputWord && len(words) == 1:
		return statement{form: output, names: words}, true
	case l[0] == memoryWord:
		return memoryStatement(words)
	}
	return statement{}, false
}

// definition returns the meaning of a line whose second token is =.
func definition(l []string) (statement, bool) {
	if len(l) < 3 || isMark(l[0]) {
		return statement{}, false
	}
	kind, known := kindOf(l[2])
	words, ok := list(l[3:])
	switch {
	case !known || !ok || kind == api.Input:
		return statement{}, false
	case kind == api.Mem:
		return memStatement(l[0], words)
	}
	return statement{form: node, name: l[0], node: api.Node{Kind: kind}, names: words}, true
}

// memStatement returns the definition of a Mem node with the words of its list.
func memStatement(name string, words []string) (statement, bool) {
	if len(words) != 2 {
		return statement{}, false
	}
	mem, isMem := count(words[0])
	bit, isBit := count(words[1])
	if !isMem || !isBit {
		return statement{}, false
	}
	return statement{form: node, name: name, node: api.Node{Kind: api.Mem, Mem: mem, Bit: bit}}, true
}

// memoryStatement returns the meaning of a MEMORY line with the words of its list. Its names are Write, those of Addr, and those of Data.
func memoryStatement(words []string) (statement, bool) {
	if len(words) < 2 {
		return statement{}, false
	}
	addr, ok := count(words[1])
	ports := words[2:]
	if !ok || addr > len(ports) {
		return statement{}, false
	}
	return statement{form: memory, addr: addr, names: append([]string{words[0]}, ports...)}, true
}

// list returns the words of a list, or false if the tokens are none.
func list(l []string) ([]string, bool) {
	last := len(l) - 1
	if last < 1 || l[0] != "(" || l[last] != ")" {
		return nil, false
	}
	inner := l[1:last]
	if len(inner) > 0 && len(inner)%2 == 0 { // one comma less than words
		return nil, false
	}
	var words []string
	for i, token := range inner {
		isBetween := i%2 == 1
		if isBetween && token != "," || !isBetween && isMark(token) {
			return nil, false
		}
		if !isBetween {
			words = append(words, token)
		}
	}
	return words, true
}

// count returns the number that a word stands for, or false if it is no count.
func count(word string) (int, bool) {
	if len(word) > 9 || len(word) > 1 && word[0] == '0' {
		return 0, false
	}
	n := 0
	for i := range len(word) {
		if word[i] < '0' || word[i] > '9' {
			return 0, false
		}
		n = 10*n + int(word[i]-'0')
	}
	return n, true
}
