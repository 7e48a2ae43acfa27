package benches_test

import (
	"slices"
	"strconv"
	"strings"
	"testing"
	"unsafe"

	"probecard/api"
	. "probecard/benches"
)

// expectFault checks that a text has a fault, and that Read returns nothing else.
func expectFault(t *testing.T, text string, want Fault) {
	t.Helper()
	c, f := Read(text)
	if f != want || !isZero(c) {
		t.Errorf("Read(%.200q) returns %v, not %v, and %d nodes", text, f, want, len(c.Nodes))
	}
}

// expectCircuit checks that a text describes a circuit.
func expectCircuit(t *testing.T, text string, want api.Circuit) {
	t.Helper()
	c, f := Read(text)
	if f != (Fault{}) || !equal(c, want) {
		t.Errorf("Read(%.200q) returns %v and %+v, not %+v", text, f, c, want)
	}
}

// expectMeaning checks that Read returns what the chapter's words say of a text.
func expectMeaning(t *testing.T, text string) {
	t.Helper()
	c, f := meaning(text)
	if f != (Fault{}) {
		expectFault(t, text, f)
	} else {
		expectCircuit(t, text, c)
	}
}

// linesOf returns the lines of a text with their terminators.
func linesOf(text string) []string { return slices.Collect(strings.Lines(text)) }

// with returns a text with another line i, counted from 0.
func with(text string, i int, line string) string {
	l := linesOf(text)
	l[i] = line + "\n"
	return strings.Join(l, "")
}

// P4.1

func TestReadExamples(t *testing.T) {
	expectCircuit(t, sheet, example())
	c := example()
	c.Nodes = append(c.Nodes, api.Node{Kind: api.Mem, Mem: 0, Bit: 1})
	c.Names = append(c.Names, "m")
	c.Mems = []api.Memory{{Addr: []int{1}, Data: []int{2, 3}, Write: 0}}
	expectCircuit(t, sheet+"m = MEM(0, 1)\nMEMORY(a, 1, q, n, g)\n", c)
	expectCircuit(t, plan, full())
}

// TestReadKinds defines a node of each kind, and has words that are those of no kind.
func TestReadKinds(t *testing.T) {
	for i, w := range kindWords {
		kind := api.Zero + api.Kind(i)
		for n := range api.MaxFanin + 3 {
			c := api.Circuit{
				Nodes: []api.Node{{}, {Kind: api.Tri, In: []int{0, 0}}, {Kind: kind, In: slices.Repeat([]int{1}, n)}},
				Names: []string{"a", "t", "x"},
			}
			text := "INPUT(a)\nt = TRI(a, a)\nx = " + w + "(" + strings.Join(slices.Repeat([]string{"t"}, n), ", ") + ")"
			if least, most := widths(kind); n < least || n > most {
				expectFault(t, text, Fault{E: api.ErrWidth})
			} else {
				expectCircuit(t, text, c)
			}
		}
	}
	for _, w := range strings.Fields("INPUT OUTPUT MEMORY MEM INV and And aND AN ANDX XAND NOTNOT BUFF 5 - a FF DFFS") {
		for _, list := range []string{"()", "(a)", "(a, a)", "(a, a, a)"} {
			expectFault(t, "INPUT(a)\nx = "+w+list, Fault{E: api.ErrForm, Line: 2})
		}
	}
}

// widths returns the numbers of inputs that a kind from Zero to Dff allows.
func widths(kind api.Kind) (least, most int) {
	switch kind {
	case api.Zero, api.One:
		return 0, 0
	case api.Buf, api.Not, api.Dff:
		return 1, 1
	case api.Mux:
		return 3, 3
	case api.Tri:
		return 2, 2
	case api.Bus:
		return 1, 16
	}
	return 2, 16
}

// TestReadPins has nodes whose pins read other nets each, in an order of their own.
func TestReadPins(t *testing.T) {
	c := api.Circuit{Nodes: make([]api.Node, 17), Names: strings.Fields("a b c d e f g h i j k l m n o p x"), Outs: []int{16, 3, 3, 0}}
	c.Nodes[16] = api.Node{Kind: api.Nor, In: []int{3, 1, 4, 15, 9, 2, 6, 5, 8, 7, 0, 10, 14, 13, 12, 11}}
	text := ""
	for _, name := range c.Names[:16] {
		text += "INPUT(" + name + ")\n"
	}
	expectCircuit(t, text+"x = NOR(d, b, e, p, j, c, g, f, i, h, a, k, o, n, m, l)\nOUTPUT(x)\nOUTPUT(d)\nOUTPUT(d)\nOUTPUT(a)\n", c)
	c.Nodes[16] = api.Node{Kind: api.Mux, In: []int{2, 0, 1}}
	expectCircuit(t, text+"x = MUX(c, a, b)\nOUTPUT(x)\nOUTPUT(d)\nOUTPUT(d)\nOUTPUT(a)\n", c)
}

// TestReadPorts cuts the names of a memory into address and data at each place.
func TestReadPorts(t *testing.T) {
	names := strings.Fields("b c d e f g h i j k")
	for k := range len(names) + 4 {
		text := "INPUT(a)\nINPUT(" + strings.Join(names, ")\nINPUT(") + ")\nMEMORY(c, " + strconv.Itoa(k) + ", " + strings.Join(names, ", ") + ")\n"
		c := api.Circuit{Nodes: make([]api.Node, 11), Names: append([]string{"a"}, names...)}
		ports := []int{1, 2, 3, 4, 5, 6, 7, 8, 9, 10}
		switch {
		case k > len(ports):
			expectFault(t, text, Fault{E: api.ErrForm, Line: 12})
		case k == 0 || k == len(ports) || k > api.MaxAddr:
			expectFault(t, text, Fault{E: api.ErrWidth})
		default:
			c.Mems = []api.Memory{{Write: 2, Addr: ports[:k], Data: ports[k:]}}
			expectCircuit(t, text, c)
		}
	}
}

// TestReadLater has references to names that only a later line defines, in each form, and to the node itself.
func TestReadLater(t *testing.T) {
	c := api.Circuit{
		Nodes: []api.Node{{Kind: api.And, In: []int{2, 1}}, {Kind: api.Dff, In: []int{1}}, {Kind: api.Input}},
		Names: []string{"x", "y", "z"},
		Mems:  []api.Memory{{Write: 0, Addr: []int{1}, Data: []int{2}}},
		Outs:  []int{2, 1},
	}
	expectCircuit(t, "OUTPUT(z)\nMEMORY(x, 1, y, z)\nx = AND(z, y)\ny = DFF(y)\nOUTPUT(y)\nINPUT(z)\n", c)
}

func TestReadTerminators(t *testing.T) {
	for _, text := range []string{sheet, plan, "INPUT(a)\n", "x = ZERO()\n"} {
		c, _ := meaning(text)
		open := strings.TrimSuffix(text, "\n")
		for _, s := range []string{open, text, text + "\n", text + "\n\n\n", "\n\n" + open, open + "#", open + " ", strings.ReplaceAll(text, "\n", "\r\n"), strings.ReplaceAll(open, "\n", "\n\n")} {
			expectCircuit(t, s, c)
		}
	}
	// The last line is checked and counted without its terminator too.
	expectFault(t, sheet+"(", Fault{E: api.ErrForm, Line: 6})
	expectFault(t, sheet+"(\n", Fault{E: api.ErrForm, Line: 6})
	expectFault(t, "\n\n\n"+sheet+"\n\n(", Fault{E: api.ErrForm, Line: 11})
	expectFault(t, "INPUT(a)\rINPUT(b)", Fault{E: api.ErrForm, Line: 1}) // a byte 13 terminates no line
}

func TestReadEmpty(t *testing.T) {
	for _, text := range []string{"", "\n", "\n\n\n", " ", "\t", "\r", "\r\n \t\n", "#", "# only a comment", "##\n#\n\t# \x00\xff\n", strings.Repeat("\n", api.MaxText), strings.Repeat("# \n ", api.MaxText/4)} {
		expectCircuit(t, text, api.Circuit{})
	}
}

// TestReadBytes puts each byte into a line: it is part of a word, a separator, the beginning of a comment, or malformed.
func TestReadBytes(t *testing.T) {
	c := func(name string) api.Circuit {
		return api.Circuit{Nodes: []api.Node{{}, {Kind: api.Buf, In: []int{0}}}, Names: []string{"a", name}}
	}
	for n := range 256 {
		b := string([]byte{byte(n)})
		text := func(line string) string { return "INPUT(a)\n" + line }
		bad := Fault{E: api.ErrForm, Line: 2}
		switch {
		case b == "\n":
			continue // it is in no line
		case strings.Contains(wordBytes, b):
			for _, name := range []string{"x" + b, b + "x", "x" + b + "x", b + b} {
				expectCircuit(t, text(name+"=BUF(a)"), c(name))
			}
			expectFault(t, text("x = "+b+"BUF(a)"), bad)
			expectFault(t, text("x = BUF(a"+b+")"), Fault{E: api.ErrName, Line: 2})
			expectFault(t, text(b), bad)
		case strings.Contains("\t\r ", b):
			for _, line := range []string{b + "x=BUF(a)", "x" + b + "=BUF(a)", "x=" + b + "BUF(a)", "x=BUF" + b + "(a)", "x=BUF(" + b + "a)", "x=BUF(a" + b + ")", "x=BUF(a)" + b} {
				expectCircuit(t, text(line), c("x"))
			}
			expectFault(t, text("x"+b+"y=BUF(a)"), bad)
			expectFault(t, text("x=B"+b+"UF(a)"), bad)
		case b == "#":
			expectCircuit(t, text("x=BUF(a)"+b), c("x"))
		default:
			for _, line := range []string{b, b + "x=BUF(a)", "x" + b + "=BUF(a)", "x=" + b + "BUF(a)", "x=BUF" + b + "(a)", "x=BUF(" + b + "a)", "x=BUF(a" + b + ")", "x=BUF(a)" + b, "x=BUF(a)" + b + "#", b + "#x"} {
				expectFault(t, text(line), bad)
			}
		}
		expectCircuit(t, text("x=BUF(a)#"+b), c("x"))
		expectCircuit(t, text("x=BUF(a) # "+b+"=("), c("x"))
		expectMeaning(t, text("x=BUF"+b+"(a)"))
	}
}

// TestReadComments cuts each line by a comment at each place.
func TestReadComments(t *testing.T) {
	for i, line := range linesOf(plan) {
		line = strings.TrimSuffix(line, "\n")
		for k := range len(line) + 1 {
			for _, comment := range []string{"#", "# x", "#)", "#,#\x00é\xff = AND(a"} {
				text := with(plan, i, line[:k]+comment)
				c, f := Read(with(plan, i, line[:k]))
				if d, g := Read(text); g != f || !equal(c, d) {
					t.Errorf("Read(%q) returns %v, not %v", text, g, f)
				}
			}
			expectMeaning(t, with(plan, i, line[:k]+"#"+line[k:]))
		}
	}
}

// tokensOf returns the tokens of a line of plan.
func tokensOf(line string) []string {
	line = strings.TrimSpace(line)
	for _, mark := range []string{"(", ")", "=", ","} {
		line = strings.ReplaceAll(line, mark, " "+mark+" ")
	}
	return strings.Fields(line)
}

// TestReadTokens leaves out, inserts and replaces each token of each line, and exchanges it with the next.
func TestReadTokens(t *testing.T) {
	others := append(strings.Fields("( ) = , INPUT OUTPUT MEMORY MEM AND BUF ZERO 0 1 2 a b"), "\x80", "#")
	for i, line := range linesOf(plan) {
		tokens := tokensOf(line)
		check := func(l []string) {
			expectMeaning(t, with(plan, i, strings.Join(l, " ")))
			expectMeaning(t, with(plan, i, strings.Join(l, "")))
		}
		for k := range len(tokens) + 1 {
			for _, x := range others {
				check(slices.Insert(slices.Clone(tokens), k, x))
				if k < len(tokens) {
					check(slices.Replace(slices.Clone(tokens), k, k+1, x))
				}
			}
			if k < len(tokens) {
				check(slices.Delete(slices.Clone(tokens), k, k+1))
				check(tokens[:k])
			}
			if k+1 < len(tokens) {
				l := slices.Clone(tokens)
				l[k], l[k+1] = l[k+1], l[k]
				check(l)
			}
		}
	}
}

// TestReadForms has lines of none of the forms, and some that are close to them.
func TestReadForms(t *testing.T) {
	for _, line := range []string{
		"INPUT", "INPUT(", "INPUT()", "INPUT)", "INPUT(x", "INPUT x", "INPUT x)", "INPUT(x))", "INPUT((x)", "INPUT(x, y)", "INPUT(x,)", "INPUT(,)", "INPUT(,x)", "INPUT(x y)", "INPUT(x) y", "input(x)", "x INPUT(y)", "INPUT=", "INPUT(=)", "(x)", "((x)", "=(x)", "x(y)", "INPUTS(x)", "INPUT(x)INPUT(y)", "AND(a)", "MEM(0, 1)", "x", "=", ",", ")", "(", "()",
		"OUTPUT", "OUTPUT()", "OUTPUT(a", "OUTPUT a", "OUTPUT(a, a)", "OUTPUT(a,)", "OUTPUT((a))", "OUTPUT(a)(", "Output(a)", "OUTPUT=a",
		"x=", "x = ONE", "x = ONE(", "x = ONE)", "x = ONE(,)", "x = (a)", "x = (ONE)", "x = a", "x == ONE()", "x y = ONE()", "= ONE()", "= = ONE()", "( = ONE()", ") = ONE()", ", = ONE()", "(x) = ONE()", "x, y = ONE()", "x = ONE() y", "x = ONE()()", "x = ONE(())", "x = y = ONE()", "x = , ()", "x = ( ()", "x = = ()",
		"x = AND(a,)", "x = AND(,a)", "x = AND(a,,a)", "x = AND(a a)", "x = AND(a, a", "x = AND(a, a))", "x = AND((a, a)", "x = AND(a, =)", "x = AND(a = a)", "x = AND a, a", "x = AND(a, a),", "x = AND(a, ()", "x = AND(a), (a)", "x = AND(a, a,)", "x = AND(a; a) b",
		"x = MEM()", "x = MEM(0)", "x = MEM(0, 1, 2)", "x = MEM(0, )", "x = MEM(, 0)", "x = MEM(0 1)", "x = MEM(a, 0)", "x = MEM(0, a)", "x = MEM", "x = MEM(0, 1", "x = MEMORY(0, 1)",
		"MEMORY", "MEMORY()", "MEMORY(a)", "MEMORY(a, a)", "MEMORY(a, a, a)", "MEMORY(a, 1)", "MEMORY(a, 2, a)", "MEMORY(1, a, a, a)", "MEMORY(a, 1, a, a", "MEMORY(a, 1, a a)", "MEMORY(a, 1, a,, a)", "MEMORY(a, 1, a, a,)", "MEMORY(a 1, a, a)", "MEMORY a, 1, a, a", "MEMORY(a, 1, a, a)(", "memory(a, 1, a, a)", "MEMORY(a, 3, a, a)", "MEMORY(a, 1,)", "MEMORY(a, 1, a = a)", "MEMORIES(a, 1, a, a)",
	} {
		for _, text := range []string{"INPUT(a)\n" + line, "INPUT(a)\n" + line + "\n", "INPUT(a)\n\t " + line + " #\nINPUT(b)"} {
			expectFault(t, text, Fault{E: api.ErrForm, Line: 2})
			expectMeaning(t, text)
		}
	}
}

// TestReadFirstWords has definitions whose first word is that of another form.
func TestReadFirstWords(t *testing.T) {
	for _, name := range append(strings.Fields("INPUT OUTPUT MEMORY MEM 0 1 -"), kindWords...) {
		c := api.Circuit{Nodes: []api.Node{{Kind: api.One}, {Kind: api.Not, In: []int{0}}}, Names: []string{name, "x"}, Outs: []int{0}}
		expectCircuit(t, name+" = ONE()\nx = NOT("+name+")\nOUTPUT("+name+")", c)
		c.Nodes = []api.Node{{Kind: api.Input}, {Kind: api.Dff, In: []int{1}}}
		c.Outs = nil
		expectCircuit(t, "INPUT("+name+")\nx = DFF(x)", c)
		expectFault(t, name+" = INPUT()", Fault{E: api.ErrForm, Line: 1})
		expectFault(t, name+" = (x)", Fault{E: api.ErrForm, Line: 1})
		expectFault(t, name+" = x", Fault{E: api.ErrForm, Line: 1})
		expectFault(t, name+"(x) = ONE()", Fault{E: api.ErrForm, Line: 1})
		expectFault(t, name+" = ONE()\n"+name+" = ONE()", Fault{E: api.ErrName, Line: 2})
	}
}

// TestReadCounts has words that are counts and others, as each of the three counts and as names.
func TestReadCounts(t *testing.T) {
	memories := "INPUT(a)\nMEMORY(a, 1" + strings.Repeat(", a", 12) + ")\nMEMORY(a, 1, a, a)\n"
	for _, x := range []struct {
		word  string
		count int // -1 if the word is none
	}{
		{"0", 0}, {"1", 1}, {"2", 2}, {"9", 9}, {"10", 10}, {"11", 11}, {"100", 100}, {"12345678", 12345678}, {"100000000", 100000000}, {"999999999", 999999999},
		{"1000000000", -1}, {"9999999999", -1}, {"18446744073709551616", -1}, {"4294967296", -1}, {strings.Repeat("9", 400), -1},
		{"00", -1}, {"01", -1}, {"000000001", -1}, {"0000000000", -1}, {"-1", -1}, {"-0", -1}, {"+1", -1}, {"1.", -1}, {"1.0", -1}, {"1e1", -1}, {"0x1", -1}, {"1_0", -1}, {"b", -1}, {"1a", -1}, {"a1", -1}, {":", -1}, {"/", -1}, {"1:", -1}, {"1/", -1},
	} {
		is := func(least, most int) bool { return x.count >= least && x.count <= most }
		for _, y := range []struct {
			text string
			line int  // of the count
			form bool // whether the count fits the line
			want api.Errno
			ok   bool
		}{
			{memories + "x = MEM(0, " + x.word + ")", 4, is(0, 999999999), api.ErrArg, is(0, 10)},
			{memories + "x = MEM(" + x.word + ", 0)", 4, is(0, 999999999), api.ErrArg, is(0, 1)},
			{"INPUT(a)\nMEMORY(a, " + x.word + ", a, a, a)\n", 2, is(0, 3), api.ErrWidth, is(1, 2)},
		} {
			want := Fault{E: y.want}
			switch {
			case !y.form:
				want = Fault{E: api.ErrForm, Line: y.line}
			case y.ok:
				want = Fault{}
			}
			if _, f := Read(y.text); f != want {
				t.Errorf("Read(%.99q) returns %v, not %v", y.text, f, want)
			}
			expectMeaning(t, y.text)
		}
		expectFault(t, "INPUT(a)\nMEMORY(a, 1, "+x.word+", a)", Fault{E: api.ErrName, Line: 2})
		expectFault(t, "INPUT(a)\nOUTPUT("+x.word+")", Fault{E: api.ErrName, Line: 2})
	}
}

// TestReadCountValues checks the numbers that counts stand for, with all bits of a word of 32 and all of 16 memories.
func TestReadCountValues(t *testing.T) {
	text := "INPUT(a)\n" + strings.Repeat("MEMORY(a, 1, a"+strings.Repeat(", a", 32)+")\n", 16)
	memory := api.Memory{Addr: []int{0}, Data: make([]int, 32)}
	want := api.Circuit{Nodes: make([]api.Node, 1), Names: []string{"a"}, Mems: slices.Repeat([]api.Memory{memory}, 16)}
	for i := range 512 {
		text += "m" + strconv.Itoa(i) + " = MEM(" + strconv.Itoa(i/32) + ", " + strconv.Itoa(i%32) + ")\n"
		want.Nodes = append(want.Nodes, api.Node{Kind: api.Mem, Mem: i / 32, Bit: i % 32})
		want.Names = append(want.Names, "m"+strconv.Itoa(i))
	}
	expectCircuit(t, text, want)
}

// The rules R1 and R4.

// lists returns all slices of numbers of c.
func lists(c api.Circuit) [][]int {
	l := [][]int{c.Outs}
	for _, n := range c.Nodes {
		l = append(l, n.In)
	}
	for _, m := range c.Mems {
		l = append(l, m.Addr, m.Data)
	}
	return l
}

// TestReadMemory checks that no slice of a circuit shares memory with another one or has room behind its end.
func TestReadMemory(t *testing.T) {
	c, _ := Read(plan)
	if len(c.Nodes) != cap(c.Nodes) || len(c.Names) != cap(c.Names) || len(c.Mems) != cap(c.Mems) {
		t.Error("a slice of structs or names has room behind its end")
	}
	for i, l := range lists(c) {
		if len(l) != cap(l) {
			t.Errorf("slice %d has room behind its end", i)
		}
		for k := range l {
			l[k] = i
		}
	}
	for i, l := range lists(c) {
		if slices.ContainsFunc(l, func(n int) bool { return n != i }) {
			t.Errorf("slice %d shares memory with another one: %v", i, l)
		}
	}
	expectCircuit(t, plan, full()) // the results of the next call are its own
}

// TestReadRetains checks that no name is a part of the text, which it would keep.
func TestReadRetains(t *testing.T) {
	text := strings.Clone(plan)
	from := uintptr(unsafe.Pointer(unsafe.StringData(text)))
	c, _ := Read(text)
	for _, name := range c.Names {
		if at := uintptr(unsafe.Pointer(unsafe.StringData(name))); at >= from && at < from+uintptr(len(text)) {
			t.Errorf("the name %s is a part of the text", name)
		}
	}
}
