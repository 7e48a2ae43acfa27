package faults_test

import (
	"cmp"
	"reflect"
	"slices"
	"testing"

	"probecard/api"
	. "probecard/faults"
)

// The rules R1, R3 and R4, and P1.

// arguments are those of all functions.
type arguments struct {
	C    api.Circuit
	A, B api.Fault
	Text string
}

// results are those of all functions, with empty slices for nil ones.
type results struct {
	Lines   []api.Line
	All     [5][]api.Fault // of each model, and of one above Strong
	Parsed  api.Fault
	Text    string
	Compare int
	Errors  [8]api.Errno // of Check, Lines, Parse and All
}

// callAll calls all functions.
func callAll(a arguments) *results {
	r := new(results)
	r.Errors[0] = Check(a.C, a.A)
	r.Lines, r.Errors[1] = Lines(a.C)
	r.Parsed, r.Errors[2] = Parse(a.Text)
	for m := range r.All {
		r.All[m], r.Errors[3+m] = All(a.C, api.Model(m))
	}
	r.Text, r.Compare = Text(a.A), Compare(a.A, a.B)
	eachSlice(r, func(s reflect.Value) {
		if s.IsNil() {
			s.Set(reflect.MakeSlice(s.Type(), 0, 0))
		}
	})
	return r
}

// eachSlice calls f for each slice in what p points at, also for those within other slices, which are visited before them.
func eachSlice(p any, f func(s reflect.Value)) {
	var visit func(v reflect.Value)
	visit = func(v reflect.Value) {
		switch v.Kind() {
		case reflect.Struct:
			for i := range v.NumField() {
				visit(v.Field(i))
			}
		case reflect.Array:
			for i := range v.Len() {
				visit(v.Index(i))
			}
		case reflect.Slice:
			for i := range v.Len() {
				visit(v.Index(i))
			}
			f(v)
		}
	}
	visit(reflect.ValueOf(p).Elem())
}

// span is the memory from the first element of a slice to the end of its capacity.
type span struct{ start, end uintptr }

// spans returns the memory of each slice in what p points at.
func spans(p any) []span {
	var l []span
	eachSlice(p, func(s reflect.Value) {
		if s.Cap() > 0 {
			l = append(l, span{s.Pointer(), s.Pointer() + uintptr(s.Cap())*s.Type().Elem().Size()})
		}
	})
	return l
}

// apart reports whether no two spans share memory.
func apart(l []span) bool {
	l = slices.SortedFunc(slices.Values(l), func(a, b span) int { return cmp.Compare(a.start, b.start) })
	for i := 1; i < len(l); i++ {
		if l[i].start < l[i-1].end {
			return false
		}
	}
	return true
}

// roomy returns equal arguments, in memory of their own, with room behind the ends of all lists that is filled with junk.
func roomy(a arguments) arguments {
	eachSlice(&a, func(s reflect.Value) {
		n := s.Len()
		out := reflect.MakeSlice(s.Type(), n+2, n+2)
		reflect.Copy(out, s)
		for k := range 2 {
			spoil(out.Index(n + k))
		}
		s.Set(out.Slice(0, n))
	})
	return a
}

// separate returns equal arguments in memory of their own.
func separate(a arguments) arguments {
	var copied func(v reflect.Value) reflect.Value
	copied = func(v reflect.Value) reflect.Value {
		out := reflect.New(v.Type()).Elem()
		out.Set(v)
		switch v.Kind() {
		case reflect.Struct:
			for i := range v.NumField() {
				out.Field(i).Set(copied(v.Field(i)))
			}
		case reflect.Slice:
			if !v.IsNil() {
				out.Set(reflect.MakeSlice(v.Type(), v.Len(), v.Len()))
			}
			for i := range v.Len() {
				out.Index(i).Set(copied(v.Index(i)))
			}
		}
		return out
	}
	return copied(reflect.ValueOf(a)).Interface().(arguments)
}

// spoil changes a value, apart from slices.
func spoil(v reflect.Value) {
	switch v.Kind() {
	case reflect.Struct:
		for i := range v.NumField() {
			spoil(v.Field(i))
		}
	case reflect.String:
		v.SetString("junk")
	case reflect.Int:
		v.SetInt(-77)
	case reflect.Uint8:
		v.SetUint(77)
	}
}

// contents returns copies of the slices in what p points at up to their capacities, so that what stands behind their ends can be compared.
func contents(p any) []any {
	var l []any
	eachSlice(p, func(s reflect.Value) {
		out := reflect.MakeSlice(s.Type(), s.Cap(), s.Cap())
		reflect.Copy(out, s.Slice(0, s.Cap()))
		l = append(l, out.Interface())
	})
	return l
}

// samples returns arguments of all sorts, valid or not.
func samples() []arguments {
	r := random(12)
	fault := func(n int) api.Fault {
		f := api.Fault{Model: api.Model(r.below(5)), Line: at(r.below(n+1), r.below(3)-1), Value: api.Value(r.below(2))}
		if f.Model >= api.Wired {
			f.Line.Pin, f.Other = -1, r.below(n+1)
		}
		return f
	}
	add := func(l []arguments, c api.Circuit) []arguments {
		a, b := fault(len(c.Nodes)), fault(len(c.Nodes))
		return append(l, arguments{c, a, b, textOf(b)})
	}
	var l []arguments
	for _, c := range circuits(200, 20) {
		l = add(add(l, c), c)
	}
	for _, x := range flaws() {
		for _, c := range flawed(x.change) {
			if len(c.Nodes) < 1000 && len(c.Outs) < 1000 {
				l = add(l, c)
			}
		}
	}
	for range 100 {
		l = add(l, r.broken())
	}
	return add(add(add(l, withMemory()), full()), inputs(257))
}

// TestSamples checks that the samples are not all alike.
func TestSamples(t *testing.T) {
	var seen [8]map[api.Errno]int
	for _, a := range samples() {
		for i, e := range callAll(a).Errors {
			if seen[i] == nil {
				seen[i] = map[api.Errno]int{}
			}
			seen[i][e]++
		}
	}
	for i, errors := range seen {
		isParse, isNone := i == 2, i == 7
		switch {
		case isParse:
			if errors[api.OK] < 100 || errors[api.ErrForm] < 20 {
				t.Errorf("function %d: %v", i, errors)
			}
		case !isNone && errors[api.OK] < 50, errors[api.ErrKind] < 4, errors[api.ErrArg] < 4, errors[api.ErrWidth] < 4, errors[api.ErrName] < 2, errors[api.ErrLoop] < 2:
			t.Errorf("function %d: %v", i, errors)
		}
	}
	if seen[5][api.ErrLimit] == 0 || seen[6][api.ErrLimit] == 0 {
		t.Errorf("bridges: %v and %v", seen[5], seen[6])
	}
}

// TestErrorsAlone checks that nothing is returned together with an error.
func TestErrorsAlone(t *testing.T) {
	for i, a := range samples() {
		r := callAll(a)
		if r.Errors[1] != api.OK && len(r.Lines) > 0 || r.Errors[2] != api.OK && r.Parsed != (api.Fault{}) {
			t.Errorf("sample %d: %v and %+v with errors %v", i, r.Lines, r.Parsed, r.Errors)
		}
		for m, l := range r.All {
			if r.Errors[3+m] != api.OK && len(l) > 0 {
				t.Errorf("sample %d: %d faults of model %d with error %d", i, len(l), m, r.Errors[3+m])
			}
		}
	}
}

// TestArgumentsUnchanged calls all functions: the arguments and what stands behind them stay as they were, and nothing there changes the results.
func TestArgumentsUnchanged(t *testing.T) {
	for i, x := range samples() {
		a := roomy(separate(x))
		before := contents(&a)
		got, want := callAll(a), callAll(x)
		if !reflect.DeepEqual(contents(&a), before) {
			t.Errorf("sample %d: an argument is changed", i)
		}
		if !reflect.DeepEqual(got, want) {
			t.Errorf("sample %d: %+v, not %+v, with room behind the arguments", i, got, want)
		}
	}
}

// TestMemoryApart checks that no two lists of the arguments and the results of two calls share memory, and that no list of the results has room behind its end.
func TestMemoryApart(t *testing.T) {
	for i, x := range samples() {
		a := separate(x)
		first, second := callAll(a), callAll(a)
		if !apart(spans(&a)) {
			t.Fatalf("sample %d: arguments share memory", i)
		}
		if !apart(slices.Concat(spans(&a), spans(first), spans(second))) {
			t.Errorf("sample %d: a result shares memory", i)
		}
		eachSlice(first, func(s reflect.Value) {
			if s.Len() != s.Cap() {
				t.Errorf("sample %d: a result of %d elements has room for %d", i, s.Len(), s.Cap())
			}
		})
	}
}

// TestCapacity has lists of all lengths up to some hundreds.
func TestCapacity(t *testing.T) {
	for n := 1; n < 300; n++ {
		c := lined(n)
		if l, e := Lines(c); e != api.OK || len(l) != n || cap(l) != n {
			t.Errorf("%d lines with room for %d, not %d, with error %d", len(l), cap(l), n, e)
		}
		for m := range api.Strong + 1 {
			if l, e := All(c, m); e != api.OK || cap(l) != len(l) {
				t.Errorf("%d faults of model %d with room for %d, with error %d", len(l), m, cap(l), e)
			}
		}
	}
}

// TestResultsKept changes the arguments, and the results of another call: the results stay as they were.
func TestResultsKept(t *testing.T) {
	for i, x := range samples() {
		a := separate(x)
		got, other := callAll(a), callAll(a)
		for _, p := range []any{&a, other} {
			eachSlice(p, func(s reflect.Value) {
				for k := range s.Len() {
					spoil(s.Index(k))
				}
			})
		}
		if want := callAll(x); !reflect.DeepEqual(got, want) {
			t.Errorf("sample %d: %+v, not %+v, after other memory has changed", i, got, want)
		}
	}
}

// TestNilArguments compares nil slices with empty ones.
func TestNilArguments(t *testing.T) {
	for i, x := range samples() {
		a := separate(x)
		eachSlice(&a, func(s reflect.Value) {
			switch {
			case s.IsNil():
				s.Set(reflect.MakeSlice(s.Type(), 0, 0))
			case s.Len() == 0:
				s.SetZero()
			}
		})
		if got, want := callAll(a), callAll(x); !reflect.DeepEqual(got, want) {
			t.Errorf("sample %d: %+v for nil slices, not %+v", i, got, want)
		}
	}
}

// TestSharedArguments has a circuit whose lists are the same memory.
func TestSharedArguments(t *testing.T) {
	one, two := []int{0}, []int{0, 1}
	c := of(in(api.Input), in(api.Buf), in(api.And), in(api.Or), in(api.Dff))
	c.Nodes[1].In, c.Nodes[4].In = one, two[1:]
	c.Nodes[2].In, c.Nodes[3].In, c.Outs = two, two, two
	a := arguments{c, parsed("strong 0 4"), parsed("strong 4 0"), "stuck 2.1 0"}
	want := callAll(separate(a))
	if got := callAll(a); !reflect.DeepEqual(got, want) || !slices.Equal(two, []int{0, 1}) || !slices.Equal(one, []int{0}) {
		t.Errorf("%+v, not %+v; the lists are %v and %v", got, want, one, two)
	}
}
