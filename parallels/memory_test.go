package parallels_test

import (
	"cmp"
	"reflect"
	"slices"
	"testing"

	"probecard/api"
	. "probecard/parallels"
)

// The rules R1, R3 and R4, and P1.

// arguments are those of all functions.
type arguments struct {
	C           api.Circuit
	L           []api.Fault
	F           api.Fault
	Tests       []api.Pattern
	P           api.Pattern
	Table       [][]uint64
	Fault, Test int
}

// results are those of all functions, with empty slices for nil ones.
type results struct {
	Faults, Patterns        []bool
	Table                   [][]uint64
	Is                      bool
	FaultsError, TableError api.Errno
	PatternsError           api.Errno
}

// callAll calls all functions.
func callAll(a arguments) *results {
	r := new(results)
	r.Faults, r.FaultsError = Faults(a.C, a.L, a.P)
	r.Patterns, r.PatternsError = Patterns(a.C, a.F, a.Tests)
	r.Table, r.TableError = Table(a.C, a.L, a.Tests)
	r.Is = At(a.Table, a.Fault, a.Test)
	eachSlice(r, func(s reflect.Value) {
		if s.IsNil() {
			s.Set(reflect.MakeSlice(s.Type(), 0, 0))
		}
	})
	return r
}

// eachSlice calls f for each slice in what p points at, also for those within other slices, which are visited before them.
func eachSlice(p any, f func(s reflect.Value)) {
	var visit func(v reflect.Value)
	visit = func(v reflect.Value) {
		switch v.Kind() {
		case reflect.Struct:
			for i := range v.NumField() {
				visit(v.Field(i))
			}
		case reflect.Array:
			for i := range v.Len() {
				visit(v.Index(i))
			}
		case reflect.Slice:
			for i := range v.Len() {
				visit(v.Index(i))
			}
			f(v)
		}
	}
	visit(reflect.ValueOf(p).Elem())
}

// span is the memory from the first element of a slice to the end of its capacity.
type span struct{ start, end uintptr }

// spans returns the memory of each slice in what p points at.
func spans(p any) []span {
	var l []span
	eachSlice(p, func(s reflect.Value) {
		if s.Cap() > 0 {
			l = append(l, span{s.Pointer(), s.Pointer() + uintptr(s.Cap())*s.Type().Elem().Size()})
		}
	})
	return l
}

// apart reports whether no two spans share memory.
func apart(l []span) bool {
	l = slices.SortedFunc(slices.Values(l), func(a, b span) int { return cmp.Compare(a.start, b.start) })
	for i := 1; i < len(l); i++ {
		if l[i].start < l[i-1].end {
			return false
		}
	}
	return true
}

// roomy returns equal arguments, in memory of their own, with room behind the ends of all lists that is filled with junk.
func roomy(a arguments) arguments {
	eachSlice(&a, func(s reflect.Value) {
		n := s.Len()
		out := reflect.MakeSlice(s.Type(), n+2, n+2)
		reflect.Copy(out, s)
		for k := range 2 {
			spoil(out.Index(n + k))
		}
		s.Set(out.Slice(0, n))
	})
	return a
}

// separate returns equal arguments in memory of their own.
func separate(a arguments) arguments {
	var copied func(v reflect.Value) reflect.Value
	copied = func(v reflect.Value) reflect.Value {
		out := reflect.New(v.Type()).Elem()
		out.Set(v)
		switch v.Kind() {
		case reflect.Struct:
			for i := range v.NumField() {
				out.Field(i).Set(copied(v.Field(i)))
			}
		case reflect.Slice:
			if !v.IsNil() {
				out.Set(reflect.MakeSlice(v.Type(), v.Len(), v.Len()))
			}
			for i := range v.Len() {
				out.Index(i).Set(copied(v.Index(i)))
			}
		}
		return out
	}
	return copied(reflect.ValueOf(a)).Interface().(arguments)
}

// spoil changes a value, apart from slices.
func spoil(v reflect.Value) {
	switch v.Kind() {
	case reflect.Struct:
		for i := range v.NumField() {
			spoil(v.Field(i))
		}
	case reflect.String:
		v.SetString("junk")
	case reflect.Int:
		v.SetInt(-77)
	case reflect.Uint8, reflect.Uint64:
		v.SetUint(77)
	case reflect.Bool:
		v.SetBool(!v.Bool())
	}
}

// contents returns copies of the slices in what p points at up to their capacities, so that what stands behind their ends can be compared.
func contents(p any) []any {
	var l []any
	eachSlice(p, func(s reflect.Value) {
		out := reflect.MakeSlice(s.Type(), s.Cap(), s.Cap())
		reflect.Copy(out, s.Slice(0, s.Cap()))
		l = append(l, out.Interface())
	})
	return l
}

// samples returns arguments of all sorts, valid or not.
func samples() []arguments {
	r := random(165)
	anyFault := func(n int) api.Fault {
		f := api.Fault{Model: api.Model(r.below(5)), Line: at(r.below(n+1), r.below(3)-1), Value: api.Value(r.below(2))}
		if f.Model >= api.Wired {
			f.Line.Pin, f.Other = -1, r.below(n+1)
		}
		return f
	}
	sample := func(c api.Circuit, l []api.Fault, n int) arguments {
		a := arguments{C: c, L: l, F: anyFault(len(c.Nodes)), Tests: r.patterns(n, c, 4), P: r.pattern(c, 4), Fault: r.below(5) - 1, Test: r.below(150) - 1}
		if len(l) > 0 {
			a.F = l[r.below(len(l))]
		}
		for range r.below(5) {
			row := make([]uint64, r.below(4))
			for i := range row {
				row[i] = uint64(r.below(1<<30)) * 0x100000001
			}
			a.Table = append(a.Table, row)
		}
		return a
	}
	var l []arguments
	for i, c := range circuits(150, 25) {
		some := all(c, api.Stuck, api.Wired, api.Strong)
		for _, n := range []int{0, 1, 3, 64, 65, 70} {
			l = append(l, sample(c, r.faults(n, some), r.below(5)), sample(c, r.faults(r.below(5), some), n))
		}
		l = append(l, sample(c, append(r.faults(i%3, some), anyFault(len(c.Nodes))), 2))
	}
	for _, x := range flaws() {
		for _, c := range flawed(x.change) {
			if len(c.Nodes) < 1000 && len(c.Outs) < 1000 {
				l = append(l, sample(c, []api.Fault{anyFault(len(c.Nodes))}, 2))
			}
		}
	}
	for range 100 {
		c := r.broken()
		l = append(l, sample(c, []api.Fault{anyFault(len(c.Nodes))}, 2))
	}
	for _, s := range []string{"0 0", "slow 2.0 1", "wired 1 3 0, 1 1", "0 1, strong 3 1"} {
		l = append(l, sample(withMemory(), list(s), 3), sample(withMemNode(), list(s), 3))
		short := sample(plain(), list(s), 3)
		short.P.In, short.Tests[2].State = short.P.In[1:], nil
		l = append(l, short)
	}
	return l
}

// TestSamples checks that the samples are not all alike.
func TestSamples(t *testing.T) {
	var seen [3]map[api.Errno]int
	for i := range seen {
		seen[i] = map[api.Errno]int{}
	}
	is := map[bool]int{}
	for _, a := range samples() {
		r := callAll(a)
		for i, e := range []api.Errno{r.FaultsError, r.PatternsError, r.TableError} {
			seen[i][e]++
		}
		is[r.Is]++
		for _, found := range slices.Concat(r.Faults, r.Patterns) {
			is[found]++
		}
	}
	for i, errors := range seen {
		if errors[api.OK] < 200 || errors[api.ErrKind] < 30 || errors[api.ErrArg] < 20 || errors[api.ErrWidth] < 4 || errors[api.ErrName] < 2 || errors[api.ErrLoop] < 2 {
			t.Errorf("function %d: %v", i, errors)
		}
	}
	if is[true] < 1000 || is[false] < 1000 {
		t.Errorf("detections: %v", is)
	}
}

// TestErrorsAlone checks that nothing is returned together with an error.
func TestErrorsAlone(t *testing.T) {
	for i, a := range samples() {
		r := callAll(a)
		if r.FaultsError != api.OK && len(r.Faults) > 0 || r.PatternsError != api.OK && len(r.Patterns) > 0 || r.TableError != api.OK && len(r.Table) > 0 {
			t.Errorf("sample %d: %+v", i, r)
		}
	}
}

// TestArgumentsUnchanged calls all functions: the arguments and what stands behind them stay as they were, and nothing there changes the results.
func TestArgumentsUnchanged(t *testing.T) {
	for i, x := range samples() {
		a := roomy(separate(x))
		before := contents(&a)
		got, want := callAll(a), callAll(x)
		if !reflect.DeepEqual(contents(&a), before) {
			t.Errorf("sample %d: an argument is changed", i)
		}
		if !reflect.DeepEqual(got, want) {
			t.Errorf("sample %d: %+v, not %+v, with room behind the arguments", i, got, want)
		}
	}
}

// TestMemoryApart checks that no two lists of the arguments and the results of two calls share memory, and that no list of the results has room behind its end.
func TestMemoryApart(t *testing.T) {
	for i, x := range samples() {
		a := separate(x)
		first, second := callAll(a), callAll(a)
		if !apart(spans(&a)) {
			t.Fatalf("sample %d: arguments share memory", i)
		}
		if !apart(slices.Concat(spans(&a), spans(first), spans(second))) {
			t.Errorf("sample %d: a result shares memory", i)
		}
		eachSlice(first, func(s reflect.Value) {
			if s.Len() != s.Cap() {
				t.Errorf("sample %d: a result of %d elements has room for %d", i, s.Len(), s.Cap())
			}
		})
	}
}

// TestCapacity has lists of all lengths up to some hundreds.
func TestCapacity(t *testing.T) {
	isFit := func(p any) bool {
		fit := true
		eachSlice(p, func(s reflect.Value) { fit = fit && s.Len() == s.Cap() })
		return fit
	}
	for n := range 300 {
		l, tests := slices.Repeat(list("0 0"), n), slices.Repeat(patterns("11"), n)
		r := callAll(arguments{C: example(), L: l, F: parsed("2 1"), Tests: tests, P: patternOf("10")})
		if !isFit(r) || len(r.Faults) != n || len(r.Patterns) != n || len(r.Table) != n {
			t.Errorf("%d: a result has room behind its end, or another length", n)
		}
		r = callAll(arguments{C: example(), L: l, F: parsed("2 1"), Tests: tests[:n/2], P: patternOf("10")})
		if !isFit(r) || len(r.Faults) != n || len(r.Patterns) != n/2 || len(r.Table) != n {
			t.Errorf("%d: a result has room behind its end, or another length", n)
		}
	}
}

// TestResultsKept changes the arguments, and the results of another call: the results stay as they were.
func TestResultsKept(t *testing.T) {
	for i, x := range samples() {
		a := separate(x)
		got, other := callAll(a), callAll(a)
		for _, p := range []any{&a, other} {
			eachSlice(p, func(s reflect.Value) {
				for k := range s.Len() {
					spoil(s.Index(k))
				}
			})
		}
		if want := callAll(x); !reflect.DeepEqual(got, want) {
			t.Errorf("sample %d: %+v, not %+v, after other memory has changed", i, got, want)
		}
	}
}

// TestNilArguments compares nil slices with empty ones.
func TestNilArguments(t *testing.T) {
	for i, x := range samples() {
		a := separate(x)
		eachSlice(&a, func(s reflect.Value) {
			switch {
			case s.IsNil():
				s.Set(reflect.MakeSlice(s.Type(), 0, 0))
			case s.Len() == 0:
				s.SetZero()
			}
		})
		if got, want := callAll(a), callAll(x); !reflect.DeepEqual(got, want) {
			t.Errorf("sample %d: %+v for nil slices, not %+v", i, got, want)
		}
	}
}

// TestSharedArguments has a circuit whose lists are the same memory, and patterns that are.
func TestSharedArguments(t *testing.T) {
	one, two, both := []int{0}, []int{0, 1}, values("10")
	c := of(nil, in(api.Input), in(api.Input), in(api.And), in(api.Or), in(api.Dff), in(api.Dff))
	c.Nodes[2].In, c.Nodes[3].In, c.Outs = two, two, two
	c.Nodes[4].In, c.Nodes[5].In = one, two[1:]
	row := []uint64{5, 6}
	p := api.Pattern{In: both, State: both}
	a := arguments{C: c, L: list("0 0, 4.0 1, wired 0 1 1, strong 4 5"), F: parsed("5.0 1"), Tests: []api.Pattern{p, p, p}, P: p, Table: [][]uint64{row, row}, Fault: 1, Test: 65}
	want := callAll(separate(a))
	if got := callAll(a); !reflect.DeepEqual(got, want) || !slices.Equal(two, []int{0, 1}) || !slices.Equal(one, []int{0}) || !slices.Equal(both, values("10")) || !slices.Equal(row, []uint64{5, 6}) {
		t.Errorf("%+v, not %+v; the lists are %v, %v, %v and %v", got, want, one, two, both, row)
	}
}
