package collapses_test

import (
	"cmp"
	"reflect"
	"slices"
	"testing"

	"probecard/api"
	. "probecard/collapses"
)

// The rules R1, R3 and R4, and P1.

// arguments are those of all functions.
type arguments struct {
	C        api.Circuit
	L        []api.Fault
	Detected []int
}

// results are those of all functions, with empty slices for nil ones.
type results struct {
	Classes      [][]int
	Reps         []api.Fault
	Dominances   [][2]int
	Core, Expand []int
	Errors       [5]api.Errno
}

// callAll calls all functions.
func callAll(a arguments) *results {
	r := new(results)
	r.Classes, r.Errors[0] = Classes(a.C, a.L)
	r.Reps, r.Errors[1] = Reps(a.C, a.L)
	r.Dominances, r.Errors[2] = Dominances(a.C, a.L)
	r.Core, r.Errors[3] = Core(a.C, a.L)
	r.Expand, r.Errors[4] = Expand(a.C, a.L, a.Detected)
	eachSlice(r, func(s reflect.Value) {
		if s.IsNil() {
			s.Set(reflect.MakeSlice(s.Type(), 0, 0))
		}
	})
	return r
}

// eachSlice calls f for each slice in what p points at, also for those within other slices, which are visited before them.
func eachSlice(p any, f func(s reflect.Value)) {
	var visit func(v reflect.Value)
	visit = func(v reflect.Value) {
		switch v.Kind() {
		case reflect.Struct:
			for i := range v.NumField() {
				visit(v.Field(i))
			}
		case reflect.Slice:
			for i := range v.Len() {
				visit(v.Index(i))
			}
			f(v)
		}
	}
	visit(reflect.ValueOf(p).Elem())
}

// span is the memory from the first element of a slice to the end of its capacity.
type span struct{ start, end uintptr }

// spans returns the memory of each slice in what p points at.
func spans(p any) []span {
	var l []span
	eachSlice(p, func(s reflect.Value) {
		if s.Cap() > 0 {
			l = append(l, span{s.Pointer(), s.Pointer() + uintptr(s.Cap())*s.Type().Elem().Size()})
		}
	})
	return l
}

// apart reports whether no two spans share memory.
func apart(l []span) bool {
	l = slices.SortedFunc(slices.Values(l), func(a, b span) int { return cmp.Compare(a.start, b.start) })
	for i := 1; i < len(l); i++ {
		if l[i].start < l[i-1].end {
			return false
		}
	}
	return true
}

// roomy returns equal arguments, in memory of their own, with room behind the ends of all lists that is filled with junk.
func roomy(a arguments) arguments {
	eachSlice(&a, func(s reflect.Value) {
		n := s.Len()
		out := reflect.MakeSlice(s.Type(), n+2, n+2)
		reflect.Copy(out, s)
		for k := range 2 {
			spoil(out.Index(n + k))
		}
		s.Set(out.Slice(0, n))
	})
	return a
}

// separate returns equal arguments in memory of their own.
func separate(a arguments) arguments {
	var copied func(v reflect.Value) reflect.Value
	copied = func(v reflect.Value) reflect.Value {
		out := reflect.New(v.Type()).Elem()
		out.Set(v)
		switch v.Kind() {
		case reflect.Struct:
			for i := range v.NumField() {
				out.Field(i).Set(copied(v.Field(i)))
			}
		case reflect.Slice:
			if !v.IsNil() {
				out.Set(reflect.MakeSlice(v.Type(), v.Len(), v.Len()))
			}
			for i := range v.Len() {
				out.Index(i).Set(copied(v.Index(i)))
			}
		}
		return out
	}
	return copied(reflect.ValueOf(a)).Interface().(arguments)
}

// spoil changes a value, apart from slices.
func spoil(v reflect.Value) {
	switch v.Kind() {
	case reflect.Struct:
		for i := range v.NumField() {
			spoil(v.Field(i))
		}
	case reflect.Array:
		for i := range v.Len() {
			spoil(v.Index(i))
		}
	case reflect.String:
		v.SetString("junk")
	case reflect.Int:
		v.SetInt(-77)
	case reflect.Uint8:
		v.SetUint(77)
	}
}

// contents returns copies of the slices in what p points at up to their capacities, so that what stands behind their ends can be compared.
func contents(p any) []any {
	var l []any
	eachSlice(p, func(s reflect.Value) {
		out := reflect.MakeSlice(s.Type(), s.Cap(), s.Cap())
		reflect.Copy(out, s.Slice(0, s.Cap()))
		l = append(l, out.Interface())
	})
	return l
}

// samples returns arguments of all sorts, valid or not.
func samples() []arguments {
	r := random(153)
	var l []arguments
	add := func(c api.Circuit, list []api.Fault) {
		detected := r.numbers(r.below(4), -r.below(2), len(list)+r.below(2)+1)
		l = append(l, arguments{c, list, detected})
	}
	for _, c := range circuits(200, 20) {
		for _, list := range r.faultLists(c) {
			add(c, list)
		}
		l = append(l, arguments{C: c, L: all(c, api.Stuck)})
		add(c, append(all(c, api.Stuck), api.Fault{Line: at(len(c.Nodes), 0)}))
	}
	for _, x := range flaws() {
		for _, c := range flawed(x.change) {
			if len(c.Nodes) < 1000 && len(c.Outs) < 1000 {
				add(c, list("0 0, slow 1 1, wired 1 3 0"))
			}
		}
	}
	for range 100 {
		add(r.broken(), list("1 0, 0 1"))
	}
	add(withMemory(), list("0 0"))
	add(withMemNode(), list("0 0"))
	return l
}

// TestSamples checks that the samples are not all alike.
func TestSamples(t *testing.T) {
	var seen [5]map[api.Errno]int
	classes, dominances, expanded := 0, 0, 0
	for _, a := range samples() {
		r := callAll(a)
		for i, e := range r.Errors {
			if seen[i] == nil {
				seen[i] = map[api.Errno]int{}
			}
			seen[i][e]++
		}
		classes, dominances, expanded = classes+len(r.Classes), dominances+len(r.Dominances), expanded+len(r.Expand)
	}
	for i, errors := range seen {
		if errors[api.OK] < 300 || errors[api.ErrKind] < 4 || errors[api.ErrArg] < 100 || errors[api.ErrWidth] < 4 || errors[api.ErrName] < 2 || errors[api.ErrLoop] < 2 {
			t.Errorf("function %d: %v", i, errors)
		}
	}
	if classes < 1000 || dominances < 500 || expanded < 500 {
		t.Errorf("%d classes, %d dominances, %d expanded", classes, dominances, expanded)
	}
}

// TestErrorsAlone checks that nothing is returned together with an error.
func TestErrorsAlone(t *testing.T) {
	for i, a := range samples() {
		r := callAll(a)
		for k, n := range []int{len(r.Classes), len(r.Reps), len(r.Dominances), len(r.Core), len(r.Expand)} {
			if r.Errors[k] != api.OK && n > 0 {
				t.Errorf("sample %d, function %d: %d elements with error %d", i, k, n, r.Errors[k])
			}
		}
	}
}

// TestArgumentsUnchanged calls all functions: the arguments and what stands behind them stay as they were, and nothing there changes the results.
func TestArgumentsUnchanged(t *testing.T) {
	for i, x := range samples() {
		a := roomy(separate(x))
		before := contents(&a)
		got, want := callAll(a), callAll(x)
		if !reflect.DeepEqual(contents(&a), before) {
			t.Errorf("sample %d: an argument is changed", i)
		}
		if !reflect.DeepEqual(got, want) {
			t.Errorf("sample %d: %+v, not %+v, with room behind the arguments", i, got, want)
		}
	}
}

// TestMemoryApart checks that no two lists of the arguments and the results of two calls share memory, and that no list of the results has room behind its end.
func TestMemoryApart(t *testing.T) {
	for i, x := range samples() {
		a := separate(x)
		first, second := callAll(a), callAll(a)
		if !apart(spans(&a)) {
			t.Fatalf("sample %d: arguments share memory", i)
		}
		if !apart(slices.Concat(spans(&a), spans(first), spans(second))) {
			t.Errorf("sample %d: a result shares memory", i)
		}
		eachSlice(first, func(s reflect.Value) {
			if s.Len() != s.Cap() {
				t.Errorf("sample %d: a result of %d elements has room for %d", i, s.Len(), s.Cap())
			}
		})
	}
}

// TestCapacity has classes, and lists of classes, pairs and indices, of all lengths up to some hundreds.
func TestCapacity(t *testing.T) {
	for n := 1; n < 300; n++ {
		nodes := []api.Node{in(api.Input)}
		for k := range n {
			nodes = append(nodes, in(api.Input), in(api.And, 2*k, 2*k+1))
		}
		c := of([]int{2 * n}, nodes...)
		var l []api.Fault
		var detected []int
		for i := range nodes {
			detected = append(detected, i)
			l = append(l, stuck(i, -1, 1))
		}
		for range n {
			l = append(l, stuck(0, -1, 0))
		}
		r := callAll(arguments{c, l, detected})
		if len(r.Classes) != 2*n+2 || len(r.Classes[2*n+1]) != n || len(r.Dominances) != 2*n || len(r.Core) != n+2 || len(r.Expand) != 2*n+1 {
			t.Errorf("%d: %d classes, %d dominances, a core of %d, %d expanded", n, len(r.Classes), len(r.Dominances), len(r.Core), len(r.Expand))
		}
		eachSlice(r, func(s reflect.Value) {
			if s.Len() != s.Cap() {
				t.Errorf("%d: a result of %d elements has room for %d", n, s.Len(), s.Cap())
			}
		})
	}
}

// TestResultsKept changes the arguments, and the results of another call: the results stay as they were.
func TestResultsKept(t *testing.T) {
	for i, x := range samples() {
		a := separate(x)
		got, other := callAll(a), callAll(a)
		for _, p := range []any{&a, other} {
			eachSlice(p, func(s reflect.Value) {
				for k := range s.Len() {
					spoil(s.Index(k))
				}
			})
		}
		if want := callAll(x); !reflect.DeepEqual(got, want) {
			t.Errorf("sample %d: %+v, not %+v, after other memory has changed", i, got, want)
		}
	}
}

// TestNilArguments compares nil slices with empty ones.
func TestNilArguments(t *testing.T) {
	for i, x := range samples() {
		a := separate(x)
		eachSlice(&a, func(s reflect.Value) {
			switch {
			case s.IsNil():
				s.Set(reflect.MakeSlice(s.Type(), 0, 0))
			case s.Len() == 0:
				s.SetZero()
			}
		})
		if got, want := callAll(a), callAll(x); !reflect.DeepEqual(got, want) {
			t.Errorf("sample %d: %+v for nil slices, not %+v", i, got, want)
		}
	}
}

// TestSharedArguments has a circuit whose lists, and that of the indices, are the same memory.
func TestSharedArguments(t *testing.T) {
	one, two := []int{0}, []int{0, 1}
	c := of(nil, in(api.Input), in(api.Input), in(api.And), in(api.Or), in(api.Dff), in(api.Dff))
	c.Nodes[2].In, c.Nodes[3].In, c.Outs = two, two, two
	c.Nodes[4].In, c.Nodes[5].In = one, two[1:]
	a := arguments{c, list("2.0 1, 3.1 0, 2.0 0, 2 1, 2.1 0, 3 0, slow 1 1"), two}
	want := callAll(separate(a))
	if got := callAll(a); !reflect.DeepEqual(got, want) || !slices.Equal(two, []int{0, 1}) || !slices.Equal(one, []int{0}) {
		t.Errorf("%+v, not %+v; the lists are %v and %v", got, want, one, two)
	}
}
