package inject_test

import (
	"cmp"
	"reflect"
	"slices"
	"testing"

	"probecard/api"
	. "probecard/inject"
	"probecard/netlists"
)

// The rules R1, R3 and R4, and P1.

// arguments are those of all functions.
type arguments struct {
	C             api.Circuit
	F             api.Fault
	First, Second api.Pattern
	Good, Bad     api.Response
}

// results are those of all functions, with empty slices for nil ones.
type results struct {
	Run, Pair        api.Response
	Nets, PairNets   []api.Value
	Outs, Nexts      []int
	Is, PairIs       bool
	Cut              api.Circuit
	RunError         api.Errno
	PairError        api.Errno
	DetectsError     api.Errno
	PairDetectsError api.Errno
	CutError         api.Errno
}

// callAll calls all functions.
func callAll(a arguments) *results {
	r := new(results)
	r.Run, r.Nets, r.RunError = Run(a.C, a.F, a.First)
	r.Pair, r.PairNets, r.PairError = Pair(a.C, a.F, a.First, a.Second)
	r.Outs, r.Nexts = Differ(a.Good, a.Bad)
	r.Is, r.DetectsError = Detects(a.C, a.F, a.First)
	r.PairIs, r.PairDetectsError = PairDetects(a.C, a.F, a.First, a.Second)
	r.Cut, r.CutError = Cut(a.C, a.F)
	eachSlice(r, func(s reflect.Value) {
		if s.IsNil() {
			s.Set(reflect.MakeSlice(s.Type(), 0, 0))
		}
	})
	return r
}

// eachSlice calls f for each slice in what p points at, also for those within other slices, which are visited before them.
func eachSlice(p any, f func(s reflect.Value)) {
	var visit func(v reflect.Value)
	visit = func(v reflect.Value) {
		switch v.Kind() {
		case reflect.Struct:
			for i := range v.NumField() {
				visit(v.Field(i))
			}
		case reflect.Array:
			for i := range v.Len() {
				visit(v.Index(i))
			}
		case reflect.Slice:
			for i := range v.Len() {
				visit(v.Index(i))
			}
			f(v)
		}
	}
	visit(reflect.ValueOf(p).Elem())
}

// span is the memory from the first element of a slice to the end of its capacity.
type span struct{ start, end uintptr }

// spans returns the memory of each slice in what p points at.
func spans(p any) []span {
	var l []span
	eachSlice(p, func(s reflect.Value) {
		if s.Cap() > 0 {
			l = append(l, span{s.Pointer(), s.Pointer() + uintptr(s.Cap())*s.Type().Elem().Size()})
		}
	})
	return l
}

// apart reports whether no two spans share memory.
func apart(l []span) bool {
	l = slices.SortedFunc(slices.Values(l), func(a, b span) int { return cmp.Compare(a.start, b.start) })
	for i := 1; i < len(l); i++ {
		if l[i].start < l[i-1].end {
			return false
		}
	}
	return true
}

// roomy returns equal arguments, in memory of their own, with room behind the ends of all lists that is filled with junk.
func roomy(a arguments) arguments {
	eachSlice(&a, func(s reflect.Value) {
		n := s.Len()
		out := reflect.MakeSlice(s.Type(), n+2, n+2)
		reflect.Copy(out, s)
		for k := range 2 {
			spoil(out.Index(n + k))
		}
		s.Set(out.Slice(0, n))
	})
	return a
}

// separate returns equal arguments in memory of their own.
func separate(a arguments) arguments {
	var copied func(v reflect.Value) reflect.Value
	copied = func(v reflect.Value) reflect.Value {
		out := reflect.New(v.Type()).Elem()
		out.Set(v)
		switch v.Kind() {
		case reflect.Struct:
			for i := range v.NumField() {
				out.Field(i).Set(copied(v.Field(i)))
			}
		case reflect.Slice:
			if !v.IsNil() {
				out.Set(reflect.MakeSlice(v.Type(), v.Len(), v.Len()))
			}
			for i := range v.Len() {
				out.Index(i).Set(copied(v.Index(i)))
			}
		}
		return out
	}
	return copied(reflect.ValueOf(a)).Interface().(arguments)
}

// spoil changes a value, apart from slices.
func spoil(v reflect.Value) {
	switch v.Kind() {
	case reflect.Struct:
		for i := range v.NumField() {
			spoil(v.Field(i))
		}
	case reflect.String:
		v.SetString("junk")
	case reflect.Int:
		v.SetInt(-77)
	case reflect.Uint8:
		v.SetUint(77)
	}
}

// contents returns copies of the slices in what p points at up to their capacities, so that what stands behind their ends can be compared.
func contents(p any) []any {
	var l []any
	eachSlice(p, func(s reflect.Value) {
		out := reflect.MakeSlice(s.Type(), s.Cap(), s.Cap())
		reflect.Copy(out, s.Slice(0, s.Cap()))
		l = append(l, out.Interface())
	})
	return l
}

// samples returns arguments of all sorts, valid or not.
func samples() []arguments {
	r := random(141)
	response := func() api.Response {
		return api.Response{Out: r.values(r.below(40), 5), Next: r.values(r.below(40), 5)}
	}
	sample := func(c api.Circuit, f api.Fault) arguments {
		return arguments{c, f, r.pattern(c, 4), r.pattern(c, 4), response(), response()}
	}
	anyFault := func(n int) api.Fault {
		f := api.Fault{Model: api.Model(r.below(5)), Line: at(r.below(n+1), r.below(3)-1), Value: api.Value(r.below(2))}
		if f.Model >= api.Wired {
			f.Line.Pin, f.Other = -1, r.below(n+1)
		}
		return f
	}
	var l []arguments
	for _, c := range circuits(200, 25) {
		for m := range api.Strong + 1 {
			for range 3 {
				if f, ok := r.fault(c, m); ok {
					l = append(l, sample(c, f))
				}
			}
		}
		l = append(l, sample(c, anyFault(len(c.Nodes))))
	}
	for _, x := range flaws() {
		for _, c := range flawed(x.change) {
			if len(c.Nodes) < 1000 && len(c.Outs) < 1000 {
				l = append(l, sample(c, anyFault(len(c.Nodes))))
			}
		}
	}
	for range 100 {
		c := r.broken()
		l = append(l, sample(c, anyFault(len(c.Nodes))))
	}
	for _, s := range []string{"stuck 0 0", "slow 2.0 1", "wired 1 3 0", "strong 3 1"} {
		l = append(l, sample(withMemory(), parsed(s)), sample(withMemNode(), parsed(s)))
		short := sample(plain(), parsed(s))
		short.First.In = short.First.In[1:]
		l = append(l, short)
	}
	return l
}

// TestSamples checks that the samples are not all alike.
func TestSamples(t *testing.T) {
	var seen [3]map[api.Errno]int
	for i := range seen {
		seen[i] = map[api.Errno]int{}
	}
	appended := map[int]int{}
	for _, a := range samples() {
		r := callAll(a)
		for i, e := range []api.Errno{r.RunError, r.PairError, r.CutError} {
			seen[i][e]++
		}
		appended[len(r.Cut.Nodes)-len(a.C.Nodes)]++
	}
	for i, errors := range seen {
		if errors[api.OK] < 200 || errors[api.ErrKind] < 100 || errors[api.ErrArg] < 20 || errors[api.ErrWidth] < 4 || errors[api.ErrName] < 2 || errors[api.ErrLoop] < 2 {
			t.Errorf("function %d: %v", i, errors)
		}
	}
	if appended[0] < 100 || appended[1] < 100 || appended[3] < 10 {
		t.Errorf("numbers of appended nodes: %v", appended)
	}
}

// TestErrorsAlone checks that nothing is returned together with an error, and that functions with the same errors agree.
func TestErrorsAlone(t *testing.T) {
	for i, a := range samples() {
		r := callAll(a)
		switch {
		case r.RunError != r.DetectsError || r.PairError != r.PairDetectsError,
			r.RunError != api.OK && (!isNone(r.Run, r.Nets) || r.Is),
			r.PairError != api.OK && (!isNone(r.Pair, r.PairNets) || r.PairIs),
			r.CutError != api.OK && !netlists.Same(r.Cut, api.Circuit{}):
			t.Errorf("sample %d: %+v", i, r)
		}
	}
}

// TestArgumentsUnchanged calls all functions: the arguments and what stands behind them stay as they were, and nothing there changes the results.
func TestArgumentsUnchanged(t *testing.T) {
	for i, x := range samples() {
		a := roomy(separate(x))
		before := contents(&a)
		got, want := callAll(a), callAll(x)
		if !reflect.DeepEqual(contents(&a), before) {
			t.Errorf("sample %d: an argument is changed", i)
		}
		if !reflect.DeepEqual(got, want) {
			t.Errorf("sample %d: %+v, not %+v, with room behind the arguments", i, got, want)
		}
	}
}

// TestMemoryApart checks that no two lists of the arguments and the results of two calls share memory, and that no list of the results has room behind its end.
func TestMemoryApart(t *testing.T) {
	for i, x := range samples() {
		a := separate(x)
		first, second := callAll(a), callAll(a)
		if !apart(spans(&a)) {
			t.Fatalf("sample %d: arguments share memory", i)
		}
		if !apart(slices.Concat(spans(&a), spans(first), spans(second))) {
			t.Errorf("sample %d: a result shares memory", i)
		}
		eachSlice(first, func(s reflect.Value) {
			if s.Len() != s.Cap() {
				t.Errorf("sample %d: a result of %d elements has room for %d", i, s.Len(), s.Cap())
			}
		})
	}
}

// TestCapacity has circuits of all numbers of nodes and outputs, and lists of all lengths, up to some hundreds.
func TestCapacity(t *testing.T) {
	isFit := func(p any) bool {
		fit := true
		eachSlice(p, func(s reflect.Value) { fit = fit && s.Len() == s.Cap() })
		return fit
	}
	for n := 2; n < 300; n++ {
		nodes := []api.Node{in(api.Input), in(api.Input), in(api.Tri, 0, 1), in(api.Bus, 2)}
		for k := range n {
			nodes = append(nodes, in(api.Dff, k))
		}
		c := of(make([]int, n), nodes...)
		low, high := make([]api.Value, n), slices.Repeat([]api.Value{1}, n)
		for _, s := range []string{"stuck 0 0", "stuck 2 1", "stuck 3.0 0", "slow 1 0", "wired 0 1 1", "strong 0 1"} {
			p := api.Pattern{In: values("01"), State: low}
			r := callAll(arguments{c, parsed(s), p, p, api.Response{Out: low, Next: high[1:]}, api.Response{Out: high, Next: low}})
			if !isFit(r) || len(r.Outs) != n || len(r.Nexts) != n-1 {
				t.Errorf("%s, %d: a result has room behind its end, or another length", s, n)
			}
		}
	}
}

// TestResultsKept changes the arguments, and the results of another call: the results stay as they were.
func TestResultsKept(t *testing.T) {
	for i, x := range samples() {
		a := separate(x)
		got, other := callAll(a), callAll(a)
		for _, p := range []any{&a, other} {
			eachSlice(p, func(s reflect.Value) {
				for k := range s.Len() {
					spoil(s.Index(k))
				}
			})
		}
		if want := callAll(x); !reflect.DeepEqual(got, want) {
			t.Errorf("sample %d: %+v, not %+v, after other memory has changed", i, got, want)
		}
	}
}

// TestNilArguments compares nil slices with empty ones.
func TestNilArguments(t *testing.T) {
	for i, x := range samples() {
		a := separate(x)
		eachSlice(&a, func(s reflect.Value) {
			switch {
			case s.IsNil():
				s.Set(reflect.MakeSlice(s.Type(), 0, 0))
			case s.Len() == 0:
				s.SetZero()
			}
		})
		if got, want := callAll(a), callAll(x); !reflect.DeepEqual(got, want) {
			t.Errorf("sample %d: %+v for nil slices, not %+v", i, got, want)
		}
	}
}

// TestSharedArguments has a circuit whose lists are the same memory, as those of the patterns and the responses are.
func TestSharedArguments(t *testing.T) {
	one, two, both := []int{0}, []int{0, 1}, values("10")
	c := of(nil, in(api.Input), in(api.Input), in(api.And), in(api.Or), in(api.Dff), in(api.Dff))
	c.Nodes[2].In, c.Nodes[3].In, c.Outs = two, two, two
	c.Nodes[4].In, c.Nodes[5].In = one, two[1:]
	for _, s := range []string{"stuck 0 0", "stuck 2.0 0", "stuck 4.0 1", "slow 1 1", "slow 3.1 0", "wired 0 1 1", "strong 1 0", "strong 4 5"} {
		p, r := api.Pattern{In: both, State: both}, api.Response{Out: both, Next: both}
		a := arguments{c, parsed(s), p, p, r, r}
		want := callAll(separate(a))
		if got := callAll(a); !reflect.DeepEqual(got, want) || !slices.Equal(two, []int{0, 1}) || !slices.Equal(one, []int{0}) || !slices.Equal(both, values("10")) {
			t.Errorf("%s: %+v, not %+v; the lists are %v, %v and %v", s, got, want, one, two, both)
		}
	}
}
