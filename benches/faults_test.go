package benches_test

import (
	"slices"
	"strconv"
	"strings"
	"testing"

	"probecard/api"
	. "probecard/benches"
)

// P4.1, the fault of a text

// padded returns a text with a comment in a line of its own that makes it n bytes long.
func padded(text string, n int) string {
	const most = 4000 // bytes of a line
	var b strings.Builder
	b.WriteString(text)
	for n-b.Len() > most {
		b.WriteString("#" + strings.Repeat("-", most-2) + "\n")
	}
	b.WriteString("#" + strings.Repeat("-", n-b.Len()-1))
	return b.String()
}

// inputs returns n lines of Input nodes.
func inputs(n int) string {
	var b strings.Builder
	for i := range n {
		b.WriteString("INPUT(n" + strconv.Itoa(i) + ")\n")
	}
	return b.String()
}

// nodes returns a circuit of n Input nodes, as inputs does.
func nodes(n int) api.Circuit {
	c := api.Circuit{Nodes: make([]api.Node, n)}
	for i := range n {
		c.Names = append(c.Names, "n"+strconv.Itoa(i))
	}
	return c
}

// long returns a name of n bytes.
func long(n int) string { return strings.Repeat("n", n) }

func TestFaultExamples(t *testing.T) {
	for _, x := range []struct {
		line string
		at   int
		want Fault
	}{
		{"n = NOT(a", 2, Fault{E: api.ErrForm, Line: 3}},
		{"n = INV(a)", 2, Fault{E: api.ErrForm, Line: 3}},
		{"g = NOT(a)", 2, Fault{E: api.ErrName, Line: 4}},
		{"g = AND(q, m)", 3, Fault{E: api.ErrName, Line: 4}},
		{"n = NOT(a, q)", 2, Fault{E: api.ErrWidth}},
	} {
		expectFault(t, with(sheet, x.at, x.line), x.want)
		expectMeaning(t, with(sheet, x.at, x.line))
	}
}

func TestFaultText(t *testing.T) {
	expectCircuit(t, padded(sheet, api.MaxText-1), example())
	expectCircuit(t, padded(sheet, api.MaxText), example())
	for _, n := range []int{api.MaxText + 1, api.MaxText + 2, 3 * api.MaxText} {
		expectFault(t, padded(sheet, n), Fault{E: api.ErrLimit})
	}
	expectFault(t, strings.Repeat("\n", api.MaxText+1), Fault{E: api.ErrLimit})
	expectFault(t, sheet+strings.Repeat(" ", api.MaxText), Fault{E: api.ErrLimit}) // a line is too long as well
}

// TestFaultLineLength has lines of MaxLine bytes and of one more, of which each part may be long.
func TestFaultLineLength(t *testing.T) {
	fill := func(before, unit, after string, n int) string {
		return before + strings.Repeat(unit, n-len(before)-len(after)) + after
	}
	for _, x := range []struct{ before, unit, after string }{
		{"n = NOT(a) ", " ", ""}, {"n = NOT(a) ", "\r", ""}, {"", "\t", "n = NOT(a)"}, {"n = ", " ", "NOT(a)"}, {"n = NOT(a) #", "(", ""}, {"n = NOT(a)#", "\xff", ""}, {"n=NOT(a)", " ", "#"},
	} {
		for _, n := range []int{api.MaxLine - 1, api.MaxLine} {
			expectCircuit(t, with(sheet, 2, fill(x.before, x.unit, x.after, n)), example())
			expectCircuit(t, "n = NOT(a)\nINPUT(a)\n"+fill("#", x.unit, "", n), api.Circuit{Nodes: []api.Node{{Kind: api.Not, In: []int{1}}, {}}, Names: []string{"n", "a"}})
		}
		for _, n := range []int{api.MaxLine + 1, api.MaxLine + 2, 2 * api.MaxLine, 100000} {
			expectFault(t, with(sheet, 2, fill(x.before, x.unit, x.after, n)), Fault{E: api.ErrLimit, Line: 3})
			expectFault(t, sheet+fill("#", x.unit, "", n), Fault{E: api.ErrLimit, Line: 6})
			expectFault(t, fill("#", x.unit, "", n)+"\n"+sheet, Fault{E: api.ErrLimit, Line: 1})
		}
	}
	// A byte 13 before the terminator belongs to the line.
	expectCircuit(t, strings.Repeat(" ", api.MaxLine-1)+"\r\n", api.Circuit{})
	expectFault(t, strings.Repeat(" ", api.MaxLine)+"\r\n", Fault{E: api.ErrLimit, Line: 1})
	// A line may have as many pins as there is room for, but Check allows no more than MaxFanin.
	pins := "x=OR(a" + strings.Repeat(",a", (api.MaxLine-7)/2) + ")"
	expectFault(t, "INPUT(a)\n"+pins, Fault{E: api.ErrWidth})
	expectFault(t, "INPUT(a)\n"+strings.Replace(pins, ")", ",a)", 1), Fault{E: api.ErrLimit, Line: 2})
}

func TestFaultNames(t *testing.T) {
	for n := 1; n < 3*api.MaxName; n++ {
		name := long(n)
		texts := []string{
			"INPUT(a)\n\nINPUT(" + name + ")",
			"INPUT(a)\n#\n" + name + " = BUF(a)",
			"MEMORY(a, 1, a, a)\nINPUT(a)\n" + name + " = MEM(0, 0)",
		}
		for _, text := range texts {
			if n > 32 {
				expectFault(t, text, Fault{E: api.ErrName, Line: 3})
			} else if c, f := Read(text); f != (Fault{}) || len(c.Names) != 2 || c.Names[1] != name {
				t.Errorf("Read(%q) returns %v", text, f)
			}
		}
	}
	expectFault(t, "INPUT("+long(4000)+")", Fault{E: api.ErrName, Line: 1})
}

// TestFaultNameTwice defines a name twice by two forms each, with lines between them.
func TestFaultNameTwice(t *testing.T) {
	definitions := []string{"INPUT(x)", "x = ONE()", "x = BUF(a)", "x = BUF(x)", "x = MEM(0, 0)", "x = DFF(none)", "INPUT(x)#", "x=XOR(x,x)"}
	for _, a := range definitions {
		for _, b := range definitions {
			expectFault(t, "MEMORY(a, 1, a, a)\nINPUT(a)\n"+a+"\nOUTPUT(x)\nINPUT(y)\n"+b+"\n", Fault{E: api.ErrName, Line: 6})
		}
	}
	// Names differ in every byte, and the words of forms are no names.
	if _, f := Read("INPUT(a)\nINPUT(A)\nINPUT(aa)\nINPUT(INPUT)\nINPUT(BUF)\nBUF2 = BUF(BUF)\nOUTPUT(a)\nOUTPUT(a)"); f != (Fault{}) {
		t.Errorf("different names: %v", f)
	}
}

// TestFaultUnknown has references to names that no line defines, at each place of each form.
func TestFaultUnknown(t *testing.T) {
	const known = "INPUT(a)\nINPUT(b)\n\n"
	for _, line := range []string{
		"OUTPUT(?)", "x = BUF(?)", "x = DFF(?)", "x = AND(?, a)", "x = AND(a, ?)", "x = NOR(a, b, ?, a)", "x = MUX(a, b, ?)", "x = BUS(?)", "x = ZERO(?)",
		"MEMORY(?, 1, a, b)", "MEMORY(a, 1, ?, b)", "MEMORY(a, 1, b, ?)", "MEMORY(a, 2, b, ?, a)", "MEMORY(?, 0)", "MEMORY(a, 0, ?)",
	} {
		for _, name := range []string{"c", "A", "aa", "1", "INPUT", "x1", long(32), long(33), long(2000)} {
			text := strings.Replace(line, "?", name, 1)
			expectFault(t, known+text, Fault{E: api.ErrName, Line: 4})
			expectFault(t, text+"\n"+known, Fault{E: api.ErrName, Line: 1})
			expectFault(t, known+text+"\nOUTPUT(d)\n", Fault{E: api.ErrName, Line: 4})
			expectFault(t, known+"OUTPUT(d)\n"+text+"\n", Fault{E: api.ErrName, Line: 4})
		}
	}
	// The words of a Mem node and the count of a memory are no names.
	expectFault(t, "INPUT(0)\nINPUT(1)\nMEMORY(0, 1, 1, 0)\nx = MEM(0, 0)\ny = BUF(2)", Fault{E: api.ErrName, Line: 5})
	c, f := Read("INPUT(a)\nMEMORY(a, 1, a, a)\nx = MEM(0, 0)")
	if f != (Fault{}) || len(c.Mems) != 1 {
		t.Errorf("counts that are no names: %v", f)
	}
}

// TestFaultNodes has as many nodes as the limit, and more.
func TestFaultNodes(t *testing.T) {
	text := inputs(api.MaxNodes)
	want := nodes(api.MaxNodes)
	expectCircuit(t, text, want)
	expectCircuit(t, text+"OUTPUT(n16383)\n\n#", api.Circuit{Nodes: want.Nodes, Names: want.Names, Outs: []int{16383}})
	for _, line := range []string{"INPUT(x)", "x = ONE()", "x = BUF(none)", "x = MEM(9, 9)", "x=ONE()\nINPUT(y)\nx=ONE()"} {
		expectFault(t, text+line, Fault{E: api.ErrLimit, Line: 16385})
		expectFault(t, "OUTPUT(none)\n\n"+text+"#\n"+line+"\n", Fault{E: api.ErrLimit, Line: 16388})
	}
	expectFault(t, text+"INPUT(n5)", Fault{E: api.ErrName, Line: 16385})
	expectFault(t, text+"INPUT("+long(33)+")", Fault{E: api.ErrName, Line: 16385})
	expectFault(t, text+"INPUT(x", Fault{E: api.ErrForm, Line: 16385})
	expectFault(t, text+"x = ONE()"+strings.Repeat(" ", api.MaxLine), Fault{E: api.ErrLimit, Line: 16385})
}

func TestFaultOuts(t *testing.T) {
	text := "INPUT(a)\nINPUT(b)\n" + strings.Repeat("OUTPUT(a)\nOUTPUT(b)\n", api.MaxNodes/2)
	want := api.Circuit{Nodes: make([]api.Node, 2), Names: []string{"a", "b"}, Outs: slices.Repeat([]int{0, 1}, api.MaxNodes/2)}
	expectCircuit(t, text, want)
	expectFault(t, text+"INPUT(c)\nOUTPUT(c)", Fault{E: api.ErrLimit, Line: 16388})
	expectFault(t, text+"OUTPUT(none)\n", Fault{E: api.ErrLimit, Line: 16387})
	expectFault(t, text+"OUTPUT()\n", Fault{E: api.ErrForm, Line: 16387})
	expectFault(t, "\n"+text+"OUTPUT(a)\nINPUT(b)\n", Fault{E: api.ErrLimit, Line: 16388})
}

func TestFaultMems(t *testing.T) {
	const line = "MEMORY(a, 1, a, b, a)\n"
	memory := api.Memory{Addr: []int{0}, Data: []int{1, 0}}
	for n := range 16 + 1 {
		want := api.Circuit{Nodes: make([]api.Node, 2), Names: []string{"a", "b"}, Mems: slices.Repeat([]api.Memory{memory}, n)}
		expectCircuit(t, strings.Repeat(line, n)+"INPUT(a)\nINPUT(b)\n", want)
	}
	for _, last := range []string{line, "MEMORY(none, 1, none, none)\n", "MEMORY(a, 0)", strings.Repeat(line, 5)} {
		expectFault(t, "INPUT(a)\nINPUT(b)\n"+strings.Repeat(line, 16)+last, Fault{E: api.ErrLimit, Line: 19})
		expectFault(t, strings.Repeat(line, 16)+last, Fault{E: api.ErrLimit, Line: 17})
	}
	expectFault(t, strings.Repeat(line, 16)+"MEMORY(a, 1)", Fault{E: api.ErrForm, Line: 17})
	// The limits are those of each form, not of all lines together.
	text := inputs(api.MaxNodes) + strings.Repeat("OUTPUT(n1)\n", api.MaxNodes) + strings.Repeat("MEMORY(n0, 1, n1, n2)\n", 16)
	if c, f := Read(text); f != (Fault{}) || len(c.Nodes) != 16384 || len(c.Outs) != 16384 || len(c.Mems) != 16 {
		t.Errorf("all limits together: %v", f)
	}
}

// TestFaultCheck has texts of circuits that Check refuses.
func TestFaultCheck(t *testing.T) {
	wide := "INPUT(a)\nMEMORY(a, 1" + strings.Repeat(", a", 33) + ")\n"
	for _, x := range []struct {
		text string
		want api.Errno
	}{
		{"INPUT(a)\nn = NOT(a, a)", api.ErrWidth}, {"n = NOT()", api.ErrWidth}, {"z = ZERO(z)", api.ErrWidth}, {"INPUT(a)\nx = AND(a)", api.ErrWidth}, {"INPUT(a)\nx = XOR(a" + strings.Repeat(", a", 16) + ")", api.ErrWidth}, {"x = BUS()", api.ErrWidth}, {"x = DFF()", api.ErrWidth},
		{"INPUT(a)\nx = BUS(a)", api.ErrKind}, {"x = BUS(x)", api.ErrKind},
		{"x = MEM(0, 0)", api.ErrArg}, {wide + "x = MEM(0, 32)", api.ErrArg}, {wide + "x = MEM(1, 0)", api.ErrArg}, {wide + "x = MEM(0, 31)", api.OK},
		{wide, api.OK}, {strings.Replace(wide, "1,", "1, a,", 1), api.ErrWidth}, {"INPUT(a)\nMEMORY(a, 9" + strings.Repeat(", a", 10) + ")", api.ErrWidth}, {"INPUT(a)\nMEMORY(a, 8" + strings.Repeat(", a", 40) + ")", api.OK}, {"INPUT(a)\nMEMORY(a, 0, a)", api.ErrWidth}, {"INPUT(a)\nMEMORY(a, 1, a)", api.ErrWidth}, {"INPUT(a)\nMEMORY(a, 0)", api.ErrWidth},
		{"x = BUF(x)", api.ErrLoop}, {"INPUT(a)\nx = AND(a, y)\ny = OR(x, a)", api.ErrLoop}, {"x = DFF(x)", api.OK},
		{"x = BUF(x)\ny = NOT()", api.ErrWidth}, {"x = BUS(x)\ny = NOT()", api.ErrKind}, {"y = NOT()\nx = BUS(x)", api.ErrWidth},
	} {
		if _, f := Read(x.text); f != (Fault{E: x.want}) {
			t.Errorf("Read(%.99q) returns %v, not error %d", x.text, f, x.want)
		}
		expectMeaning(t, x.text)
	}
}

// flaw is a part of a text that has a fault.
type flaw struct {
	text string
	part int // the part of the definition of faults that applies: 2 to 4
	e    api.Errno
}

// fault returns the fault of the flaw whose last line has a number.
func (f flaw) fault(line int) Fault {
	if f.part == 4 {
		return Fault{E: f.e}
	}
	return Fault{E: f.e, Line: line}
}

// flaws returns parts of texts that are faults behind the line INPUT(a), whatever lines stand between.
func flaws() []flaw {
	return []flaw{
		{strings.Repeat(" ", api.MaxLine+1), 2, api.ErrLimit},
		{"OUTPUT(none)" + strings.Repeat(" ", api.MaxLine), 2, api.ErrLimit},
		{"\x80", 2, api.ErrForm},
		{"x = INV(a)", 2, api.ErrForm},
		{"OUTPUT(none", 2, api.ErrForm},
		{"INPUT(a)", 2, api.ErrName},
		{"a = BUF(none)", 2, api.ErrName},
		{long(33) + " = BUF(none)", 2, api.ErrName},
		{strings.Repeat("#\n", 9) + "INPUT(a)", 2, api.ErrName},
		{"OUTPUT(none)", 3, api.ErrName},
		{"y = BUF(none)", 3, api.ErrName},
		{"MEMORY(a, 1, a, none)", 3, api.ErrName},
		{"z = NOT(a, a)", 4, api.ErrWidth},
		{"l = BUF(l)", 4, api.ErrLoop},
		{"b = BUS(a)", 4, api.ErrKind},
		{"m = MEM(9, 9)", 4, api.ErrArg},
	}
}

// TestFaultOrder has each two flaws in both orders: the earlier part of the definition of faults decides, then the earlier line.
func TestFaultOrder(t *testing.T) {
	lines := func(text string) int { return strings.Count(text, "\n") }
	for i, f := range flaws() {
		for k, g := range flaws() {
			if i == k && f.part > 2 {
				continue // two lines that define the same name are another flaw
			}
			first := "INPUT(a)\n#\n" + f.text + "\n"
			text := first + "\n" + g.text + "\n"
			want := f.fault(lines(first))
			switch {
			case g.part < f.part:
				want = g.fault(lines(text))
			case f.part == 4 && f.e == api.ErrLoop:
				want = g.fault(0) // Check looks for loops last
			}
			expectFault(t, text, want)
			expectFault(t, text+strings.Repeat("#\n", api.MaxText/2), Fault{E: api.ErrLimit})
		}
	}
}

// TestFaultWithinLine has lines to which several errors apply.
func TestFaultWithinLine(t *testing.T) {
	full := inputs(api.MaxNodes)
	outs := "INPUT(n1)\n" + strings.Repeat("OUTPUT(n1)\n", api.MaxNodes)
	mems := "INPUT(n1)\n" + strings.Repeat("MEMORY(n1, 1, n1, n1)\n", api.MaxMems)
	wide := strings.Repeat(" ", api.MaxLine)
	for _, x := range []struct {
		before, line string
		want         api.Errno
	}{
		{"", "\xff" + wide, api.ErrLimit},
		{"", "x = INV(a)" + wide, api.ErrLimit},
		{"INPUT(n1)\n", "INPUT(n1)" + wide, api.ErrLimit},
		{"", "INPUT(" + long(33) + ")" + wide, api.ErrLimit},
		{"", "INPUT(" + long(api.MaxLine) + ")", api.ErrLimit},
		{"INPUT(n1)\n", "INPUT(n1)\x7f", api.ErrForm},
		{"INPUT(n1)\n", "n1 = INV(none)", api.ErrForm},
		{"INPUT(n1)\n", "n1 = MEM(0, 00)", api.ErrForm},
		{"", "INPUT(" + long(33), api.ErrForm},
		{"", long(33) + " = MEM(none, 0)", api.ErrForm},
		{full, "INPUT(n1)", api.ErrName},
		{full, "n1 = BUF(none)", api.ErrName},
		{full, "INPUT(" + long(33) + ")", api.ErrName},
		{full, "INPUT(x", api.ErrForm},
		{full, "INPUT(x) \x01", api.ErrForm},
		{full, "x = BUF(none)", api.ErrLimit},
		{outs, "OUTPUT(none)", api.ErrLimit},
		{outs, "OUTPUT(none", api.ErrForm},
		{outs, "OUTPUT(n1)é", api.ErrForm},
		{mems, "MEMORY(none, 1, none)", api.ErrLimit},
		{mems, "MEMORY(n1, 3, n1, n1)", api.ErrForm},
		{"", long(33) + " = BUF(none)", api.ErrName},
		{"", "x = BUF(none, none)", api.ErrName},
	} {
		expectFault(t, x.before+x.line, Fault{E: x.want, Line: 1 + strings.Count(x.before, "\n")})
		expectMeaning(t, x.before+x.line)
	}
}
