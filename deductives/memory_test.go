package deductives_test

import (
	"cmp"
	"reflect"
	"slices"
	"testing"

	"probecard/api"
	. "probecard/deductives"
)

// The rules R1, R3 and R4, and P1.

// arguments are those of both functions.
type arguments struct {
	C api.Circuit
	L []api.Fault
	P api.Pattern
}

// results are those of both functions, with empty slices for nil ones.
type results struct {
	Lists                     [][]int
	Detected                  []int
	ListsError, DetectedError api.Errno
}

// callAll calls both functions.
func callAll(a arguments) *results {
	r := new(results)
	r.Lists, r.ListsError = Lists(a.C, a.L, a.P)
	r.Detected, r.DetectedError = Detected(a.C, a.L, a.P)
	eachSlice(r, func(s reflect.Value) {
		if s.IsNil() {
			s.Set(reflect.MakeSlice(s.Type(), 0, 0))
		}
	})
	return r
}

// eachSlice calls f for each slice in what p points at, also for those within other slices, which are visited before them.
func eachSlice(p any, f func(s reflect.Value)) {
	var visit func(v reflect.Value)
	visit = func(v reflect.Value) {
		switch v.Kind() {
		case reflect.Struct:
			for i := range v.NumField() {
				visit(v.Field(i))
			}
		case reflect.Array:
			for i := range v.Len() {
				visit(v.Index(i))
			}
		case reflect.Slice:
			for i := range v.Len() {
				visit(v.Index(i))
			}
			f(v)
		}
	}
	visit(reflect.ValueOf(p).Elem())
}

// span is the memory from the first element of a slice to the end of its capacity.
type span struct{ start, end uintptr }

// spans returns the memory of each slice in what p points at.
func spans(p any) []span {
	var l []span
	eachSlice(p, func(s reflect.Value) {
		if s.Cap() > 0 {
			l = append(l, span{s.Pointer(), s.Pointer() + uintptr(s.Cap())*s.Type().Elem().Size()})
		}
	})
	return l
}

// apart reports whether no two spans share memory.
func apart(l []span) bool {
	l = slices.SortedFunc(slices.Values(l), func(a, b span) int { return cmp.Compare(a.start, b.start) })
	for i := 1; i < len(l); i++ {
		if l[i].start < l[i-1].end {
			return false
		}
	}
	return true
}

// roomy returns equal arguments, in memory of their own, with room behind the ends of all lists that is filled with junk.
func roomy(a arguments) arguments {
	eachSlice(&a, func(s reflect.Value) {
		n := s.Len()
		out := reflect.MakeSlice(s.Type(), n+2, n+2)
		reflect.Copy(out, s)
		for k := range 2 {
			spoil(out.Index(n + k))
		}
		s.Set(out.Slice(0, n))
	})
	return a
}

// separate returns equal arguments in memory of their own.
func separate(a arguments) arguments {
	var copied func(v reflect.Value) reflect.Value
	copied = func(v reflect.Value) reflect.Value {
		out := reflect.New(v.Type()).Elem()
		out.Set(v)
		switch v.Kind() {
		case reflect.Struct:
			for i := range v.NumField() {
				out.Field(i).Set(copied(v.Field(i)))
			}
		case reflect.Slice:
			if !v.IsNil() {
				out.Set(reflect.MakeSlice(v.Type(), v.Len(), v.Len()))
			}
			for i := range v.Len() {
				out.Index(i).Set(copied(v.Index(i)))
			}
		}
		return out
	}
	return copied(reflect.ValueOf(a)).Interface().(arguments)
}

// spoil changes a value, apart from slices.
func spoil(v reflect.Value) {
	switch v.Kind() {
	case reflect.Struct:
		for i := range v.NumField() {
			spoil(v.Field(i))
		}
	case reflect.String:
		v.SetString("junk")
	case reflect.Int:
		v.SetInt(-77)
	case reflect.Uint8:
		v.SetUint(77)
	}
}

// contents returns copies of the slices in what p points at up to their capacities, so that what stands behind their ends can be compared.
func contents(p any) []any {
	var l []any
	eachSlice(p, func(s reflect.Value) {
		out := reflect.MakeSlice(s.Type(), s.Cap(), s.Cap())
		reflect.Copy(out, s.Slice(0, s.Cap()))
		l = append(l, out.Interface())
	})
	return l
}

// samples returns arguments of all sorts, valid or not.
func samples() []arguments {
	r := random(179)
	anyFault := func(n int) api.Fault {
		f := api.Fault{Model: api.Model(r.below(5)), Line: at(r.below(n+1), r.below(3)-1), Value: api.Value(r.below(2))}
		if f.Model >= api.Wired {
			f.Line.Pin, f.Other = -1, r.below(n+1)
		}
		return f
	}
	var l []arguments
	for i, c := range circuits(200, 25) {
		some := all(c, api.Stuck)
		for _, n := range []int{0, 1, 3, 20, 70} {
			l = append(l, arguments{c, r.faults(n, some), r.full(c)})
		}
		l = append(l, arguments{c, some, r.full(c)}, arguments{c, r.faults(2, some), r.pattern(c, 5)})
		l = append(l, arguments{c, append(r.faults(i%3, some), anyFault(len(c.Nodes))), r.full(c)})
	}
	for _, x := range flaws() {
		for _, c := range flawed(x.change) {
			if len(c.Nodes) < 1000 && len(c.Outs) < 1000 {
				l = append(l, arguments{c, []api.Fault{anyFault(len(c.Nodes))}, r.full(c)})
			}
		}
	}
	for range 100 {
		c := r.broken()
		l = append(l, arguments{c, []api.Fault{anyFault(len(c.Nodes))}, r.full(c)})
	}
	for _, s := range []string{"0 0", "slow 2.0 1", "wired 1 3 0, 1 1", "0 1, strong 3 1", "wired 1 9 0"} {
		for _, c := range []api.Circuit{withMemory(), withMemNode(), withTri(), withBus(), gates()} {
			p := r.full(c)
			short := api.Pattern{In: p.In[1:], State: p.State}
			l = append(l, arguments{c, list(s), p}, arguments{c, list(s), short})
		}
	}
	return l
}

// TestSamples checks that the samples are not all alike.
func TestSamples(t *testing.T) {
	seen := map[api.Errno]int{}
	entries, hits := 0, 0
	for i, a := range samples() {
		r := callAll(a)
		if r.ListsError != r.DetectedError {
			t.Errorf("sample %d: errors %d and %d", i, r.ListsError, r.DetectedError)
		}
		seen[r.ListsError]++
		entries, hits = entries+len(slices.Concat(r.Lists...)), hits+len(r.Detected)
	}
	if seen[api.OK] < 1000 || seen[api.ErrKind] < 30 || seen[api.ErrArg] < 20 || seen[api.ErrWidth] < 4 || seen[api.ErrName] < 2 || seen[api.ErrLoop] < 2 {
		t.Errorf("%v", seen)
	}
	if entries < 10000 || hits < 1000 {
		t.Errorf("%d entries, %d detected faults", entries, hits)
	}
}

// TestErrorsAlone checks that nothing is returned together with an error.
func TestErrorsAlone(t *testing.T) {
	for i, a := range samples() {
		r := callAll(a)
		if r.ListsError != api.OK && len(r.Lists) > 0 || r.DetectedError != api.OK && len(r.Detected) > 0 {
			t.Errorf("sample %d: %+v", i, r)
		}
	}
}

// TestArgumentsUnchanged calls both functions: the arguments and what stands behind them stay as they were, and nothing there changes the results.
func TestArgumentsUnchanged(t *testing.T) {
	for i, x := range samples() {
		a := roomy(separate(x))
		before := contents(&a)
		got, want := callAll(a), callAll(x)
		if !reflect.DeepEqual(contents(&a), before) {
			t.Errorf("sample %d: an argument is changed", i)
		}
		if !reflect.DeepEqual(got, want) {
			t.Errorf("sample %d: %+v, not %+v, with room behind the arguments", i, got, want)
		}
	}
}

// TestMemoryApart checks that no two lists of the arguments and the results of two calls share memory, and that no list of the results has room behind its end.
func TestMemoryApart(t *testing.T) {
	for i, x := range samples() {
		a := separate(x)
		first, second := callAll(a), callAll(a)
		if !apart(spans(&a)) {
			t.Fatalf("sample %d: arguments share memory", i)
		}
		if !apart(slices.Concat(spans(&a), spans(first), spans(second))) {
			t.Errorf("sample %d: a result shares memory", i)
		}
		eachSlice(first, func(s reflect.Value) {
			if s.Len() != s.Cap() {
				t.Errorf("sample %d: a result of %d elements has room for %d", i, s.Len(), s.Cap())
			}
		})
	}
}

// TestCapacity has fault lists of all lengths up to some hundreds, and as many nets.
func TestCapacity(t *testing.T) {
	for n := range 300 {
		for _, a := range []arguments{
			{example(), slices.Repeat(list("0 0"), n), patternOf("11")},
			{chain(n+1, n%2 == 0), list("0 0, 0 1"), patternOf("0")},
		} {
			r := callAll(a)
			if r.ListsError != api.OK || r.DetectedError != api.OK || len(r.Lists) != len(a.C.Nodes) {
				t.Errorf("%d: errors %d and %d, %d lists", n, r.ListsError, r.DetectedError, len(r.Lists))
			}
			eachSlice(r, func(s reflect.Value) {
				if s.Len() != s.Cap() {
					t.Errorf("%d: a result of %d elements has room for %d", n, s.Len(), s.Cap())
				}
			})
		}
	}
}

// TestResultsKept changes the arguments, and the results of another call: the results stay as they were.
func TestResultsKept(t *testing.T) {
	for i, x := range samples() {
		a := separate(x)
		got, other := callAll(a), callAll(a)
		for _, p := range []any{&a, other} {
			eachSlice(p, func(s reflect.Value) {
				for k := range s.Len() {
					spoil(s.Index(k))
				}
			})
		}
		if want := callAll(x); !reflect.DeepEqual(got, want) {
			t.Errorf("sample %d: %+v, not %+v, after other memory has changed", i, got, want)
		}
	}
}

// TestNilArguments compares nil slices with empty ones.
func TestNilArguments(t *testing.T) {
	for i, x := range samples() {
		a := separate(x)
		eachSlice(&a, func(s reflect.Value) {
			switch {
			case s.IsNil():
				s.Set(reflect.MakeSlice(s.Type(), 0, 0))
			case s.Len() == 0:
				s.SetZero()
			}
		})
		if got, want := callAll(a), callAll(x); !reflect.DeepEqual(got, want) {
			t.Errorf("sample %d: %+v for nil slices, not %+v", i, got, want)
		}
	}
}

// TestSharedArguments has a circuit whose lists are the same memory, and a pattern whose lists are.
func TestSharedArguments(t *testing.T) {
	one, two, both := []int{0}, []int{0, 1}, values("10")
	c := of(nil, in(api.Input), in(api.Input), in(api.And), in(api.Or), in(api.Dff), in(api.Dff))
	c.Nodes[2].In, c.Nodes[3].In, c.Outs = two, two, two
	c.Nodes[4].In, c.Nodes[5].In = one, two[1:]
	a := arguments{c, all(c, api.Stuck), api.Pattern{In: both, State: both}}
	want := callAll(separate(a))
	if got := callAll(a); !reflect.DeepEqual(got, want) || !slices.Equal(two, []int{0, 1}) || !slices.Equal(one, []int{0}) || !slices.Equal(both, values("10")) {
		t.Errorf("%+v, not %+v; the lists are %v, %v and %v", got, want, one, two, both)
	}
}
