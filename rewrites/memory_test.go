package rewrites_test

import (
	"cmp"
	"reflect"
	"slices"
	"testing"

	"probecard/api"
	"probecard/netlists"
	. "probecard/rewrites"
)

// The rules R1, R3 and R4, and P1.

// arguments are those of all functions.
type arguments struct{ A, B api.Circuit }

// results are those of all functions, with empty slices for nil ones.
type results struct {
	Rewritten [5]Result
	Pattern   api.Pattern
	Same      bool
	Errors    [6]api.Errno
}

// callAll calls all functions.
func callAll(a arguments) *results {
	r := new(results)
	for i, f := range functions() {
		r.Rewritten[i], r.Errors[i] = f.of(a.A)
	}
	r.Pattern, r.Same, r.Errors[5] = Equal(a.A, a.B)
	eachSlice(r, func(s reflect.Value) {
		if s.IsNil() {
			s.Set(reflect.MakeSlice(s.Type(), 0, 0))
		}
	})
	return r
}

// eachSlice calls f for each slice in what p points at, also for those within other slices, which are visited before them.
func eachSlice(p any, f func(s reflect.Value)) {
	var visit func(v reflect.Value)
	visit = func(v reflect.Value) {
		switch v.Kind() {
		case reflect.Struct:
			for i := range v.NumField() {
				visit(v.Field(i))
			}
		case reflect.Array:
			for i := range v.Len() {
				visit(v.Index(i))
			}
		case reflect.Slice:
			for i := range v.Len() {
				visit(v.Index(i))
			}
			f(v)
		}
	}
	visit(reflect.ValueOf(p).Elem())
}

// span is the memory from the first element of a slice to the end of its capacity.
type span struct{ start, end uintptr }

// spans returns the memory of each slice in what p points at.
func spans(p any) []span {
	var l []span
	eachSlice(p, func(s reflect.Value) {
		if s.Cap() > 0 {
			l = append(l, span{s.Pointer(), s.Pointer() + uintptr(s.Cap())*s.Type().Elem().Size()})
		}
	})
	return l
}

// apart reports whether no two spans share memory.
func apart(l []span) bool {
	l = slices.SortedFunc(slices.Values(l), func(a, b span) int { return cmp.Compare(a.start, b.start) })
	for i := 1; i < len(l); i++ {
		if l[i].start < l[i-1].end {
			return false
		}
	}
	return true
}

// roomy returns equal arguments, in memory of their own, with room behind the ends of all lists that is filled with junk.
func roomy(a arguments) arguments {
	eachSlice(&a, func(s reflect.Value) {
		n := s.Len()
		out := reflect.MakeSlice(s.Type(), n+2, n+2)
		reflect.Copy(out, s)
		for k := range 2 {
			spoil(out.Index(n + k))
		}
		s.Set(out.Slice(0, n))
	})
	return a
}

// separate returns equal arguments in memory of their own.
func separate(a arguments) arguments {
	var copied func(v reflect.Value) reflect.Value
	copied = func(v reflect.Value) reflect.Value {
		out := reflect.New(v.Type()).Elem()
		out.Set(v)
		switch v.Kind() {
		case reflect.Struct:
			for i := range v.NumField() {
				out.Field(i).Set(copied(v.Field(i)))
			}
		case reflect.Slice:
			if !v.IsNil() {
				out.Set(reflect.MakeSlice(v.Type(), v.Len(), v.Len()))
			}
			for i := range v.Len() {
				out.Index(i).Set(copied(v.Index(i)))
			}
		}
		return out
	}
	return copied(reflect.ValueOf(a)).Interface().(arguments)
}

// spoil changes a value, apart from slices.
func spoil(v reflect.Value) {
	switch v.Kind() {
	case reflect.Struct:
		for i := range v.NumField() {
			spoil(v.Field(i))
		}
	case reflect.String:
		v.SetString("junk")
	case reflect.Int:
		v.SetInt(-77)
	case reflect.Uint8:
		v.SetUint(77)
	}
}

// contents returns copies of the slices in what p points at up to their capacities, so that what stands behind their ends can be compared.
func contents(p any) []any {
	var l []any
	eachSlice(p, func(s reflect.Value) {
		out := reflect.MakeSlice(s.Type(), s.Cap(), s.Cap())
		reflect.Copy(out, s.Slice(0, s.Cap()))
		l = append(l, out.Interface())
	})
	return l
}

// samples returns arguments of all sorts, valid or not.
func samples() []arguments {
	r := random(116)
	var l []arguments
	for _, c := range circuits(200, 20, 2) {
		l = append(l, arguments{c, r.circuit(1+r.below(6), 0)}, arguments{c, netlists.Copy(c)})
	}
	for _, c := range circuits(100, 15, 0) {
		simple, _ := Simplify(c)
		other := netlists.Copy(c)
		for k, n := range other.Nodes {
			if n.Kind >= api.And && n.Kind < api.Xnor {
				other.Nodes[k].Kind++
			}
		}
		l = append(l, arguments{c, simple.Circuit}, arguments{other, c})
	}
	for _, f := range flaws() {
		for _, c := range flawed(f.change) {
			if len(c.Nodes) < 1000 && len(c.Outs) < 1000 {
				l = append(l, arguments{c, plain()}, arguments{plain(), c})
			}
		}
	}
	for range 100 {
		l = append(l, arguments{r.broken(), r.broken()})
	}
	return append(l, arguments{sized(12, 1, 1, false, api.OK), sized(12, 1, 1, false, api.OK)})
}

// TestSamples checks that the samples are not all alike.
func TestSamples(t *testing.T) {
	var seen [6]map[api.Errno]int
	different := 0
	for _, a := range samples() {
		r := callAll(a)
		for i, e := range r.Errors {
			if seen[i] == nil {
				seen[i] = map[api.Errno]int{}
			}
			seen[i][e]++
		}
		if len(r.Pattern.In)+len(r.Pattern.State) > 0 {
			different++
		}
	}
	for i, errors := range seen {
		if errors[api.OK] < 100 || errors[api.ErrLoop] < 2 || errors[api.ErrName] < 2 || errors[api.ErrWidth] < 10 || errors[api.ErrArg] < 10 || errors[api.ErrKind] < 4 || i == 5 && errors[api.ErrLimit] < 1 {
			t.Errorf("function %d: %v", i, errors)
		}
	}
	if different < 10 {
		t.Errorf("%d patterns", different)
	}
}

// TestArgumentsUnchanged calls all functions: the arguments and what stands behind them stay as they were, and nothing there changes the results.
func TestArgumentsUnchanged(t *testing.T) {
	for i, x := range samples() {
		a := roomy(separate(x))
		before := contents(&a)
		got, want := callAll(a), callAll(x)
		if !reflect.DeepEqual(contents(&a), before) {
			t.Errorf("sample %d: an argument is changed", i)
		}
		if !reflect.DeepEqual(got, want) {
			t.Errorf("sample %d: %+v, not %+v, with room behind the arguments", i, got, want)
		}
	}
}

// TestMemoryApart checks that no two lists of the arguments and the results of two calls share memory, and that no list of the results has room behind its end.
func TestMemoryApart(t *testing.T) {
	for i, x := range samples() {
		a := separate(x)
		first, second := callAll(a), callAll(a)
		if !apart(spans(&a)) {
			t.Fatalf("sample %d: arguments share memory", i)
		}
		if !apart(slices.Concat(spans(&a), spans(first), spans(second))) {
			t.Errorf("sample %d: a result shares memory", i)
		}
		eachSlice(first, func(s reflect.Value) {
			if s.Len() != s.Cap() {
				t.Errorf("sample %d: a result of %d elements has room for %d", i, s.Len(), s.Cap())
			}
		})
	}
}

// TestResultsKept changes the arguments, and the results of another call: the results stay as they were.
func TestResultsKept(t *testing.T) {
	for i, x := range samples() {
		a := separate(x)
		got, other := callAll(a), callAll(a)
		for _, p := range []any{&a, other} {
			eachSlice(p, func(s reflect.Value) {
				for k := range s.Len() {
					spoil(s.Index(k))
				}
			})
		}
		if want := callAll(x); !reflect.DeepEqual(got, want) {
			t.Errorf("sample %d: %+v, not %+v, after other memory has changed", i, got, want)
		}
	}
}

// TestNilArguments compares nil slices with empty ones.
func TestNilArguments(t *testing.T) {
	for i, x := range samples() {
		a := separate(x)
		eachSlice(&a, func(s reflect.Value) {
			switch {
			case s.IsNil():
				s.Set(reflect.MakeSlice(s.Type(), 0, 0))
			case s.Len() == 0:
				s.SetZero()
			}
		})
		if got, want := callAll(a), callAll(x); !reflect.DeepEqual(got, want) {
			t.Errorf("sample %d: %+v for nil slices, not %+v", i, got, want)
		}
	}
}

// TestSharedArguments has circuits whose lists are the same memory, and the same circuit twice.
func TestSharedArguments(t *testing.T) {
	one, two := []int{0}, []int{0, 1}
	c := of(two, in(api.Input), in(api.Buf, 0), in(api.And, 0, 1), in(api.Or, 0, 1), in(api.Dff, 0), api.Node{Kind: api.Mem})
	c.Nodes[1].In, c.Nodes[4].In = one, two[1:]
	c.Nodes[2].In, c.Nodes[3].In = two, two
	c.Mems = []api.Memory{{Addr: two, Data: one, Write: 1}, {Addr: two[1:], Data: two[1:]}}
	want := callAll(separate(arguments{c, c}))
	if got := callAll(arguments{c, c}); !reflect.DeepEqual(got, want) || !slices.Equal(two, []int{0, 1}) || !slices.Equal(one, []int{0}) {
		t.Errorf("%v, not %v; the lists are %v and %v", got, want, one, two)
	}
	a, b := separate(arguments{c, c}), callAll(arguments{c, c})
	if !apart(slices.Concat(spans(&a), spans(b))) {
		t.Error("a result shares memory")
	}
	c.Mems, c.Nodes = nil, c.Nodes[:5]
	c = named(c)
	if p, same, e := Equal(c, c); !same || e != api.OK || len(p.In)+len(p.State) > 0 {
		t.Errorf("%v, %t and error %d", p, same, e)
	}
}
