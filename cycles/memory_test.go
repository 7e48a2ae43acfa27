package cycles_test

import (
	"cmp"
	"reflect"
	"slices"
	"testing"

	"probecard/api"
	. "probecard/cycles"
	"probecard/memories"
)

// The rules R1, R3 and R4, and P1.

// arguments are those of all functions.
type arguments struct {
	Circuit  api.Circuit
	State    memories.State
	In       [][]api.Value
	N        int
	Response api.Response
}

// results are those of all functions, with empty slices for nil ones.
type results struct {
	Run     []api.Response
	Last    memories.State
	Frames  Frames
	Pattern api.Pattern
	Split   []api.Response
	Settled []int
	Errors  [5]api.Errno
}

// callAll calls all functions.
func callAll(a arguments) *results {
	r := new(results)
	r.Run, r.Last, r.Errors[0] = Run(a.Circuit, a.State, a.In...)
	r.Frames, r.Errors[1] = Unroll(a.Circuit, a.N)
	r.Pattern, r.Errors[2] = Pattern(a.Circuit, a.State.Dff, a.In...)
	r.Split, r.Errors[3] = Split(a.Circuit, a.N, a.Response)
	r.Settled, r.Errors[4] = Settled(a.Circuit, a.In...)
	eachSlice(r, func(s reflect.Value) {
		if s.IsNil() {
			s.Set(reflect.MakeSlice(s.Type(), 0, 0))
		}
	})
	return r
}

// eachSlice calls f for each slice in what p points at, also for those within other slices, which are visited before them.
func eachSlice(p any, f func(s reflect.Value)) {
	var visit func(v reflect.Value)
	visit = func(v reflect.Value) {
		switch v.Kind() {
		case reflect.Struct:
			for i := range v.NumField() {
				visit(v.Field(i))
			}
		case reflect.Slice:
			for i := range v.Len() {
				visit(v.Index(i))
			}
			f(v)
		}
	}
	visit(reflect.ValueOf(p).Elem())
}

// span is the memory from the first element of a slice to the end of its capacity.
type span struct{ start, end uintptr }

// spans returns the memory of each slice in what p points at.
func spans(p any) []span {
	var l []span
	eachSlice(p, func(s reflect.Value) {
		if s.Cap() > 0 {
			l = append(l, span{s.Pointer(), s.Pointer() + uintptr(s.Cap())*s.Type().Elem().Size()})
		}
	})
	return l
}

// apart reports whether no two spans share memory.
func apart(l []span) bool {
	l = slices.SortedFunc(slices.Values(l), func(a, b span) int { return cmp.Compare(a.start, b.start) })
	for i := 1; i < len(l); i++ {
		if l[i].start < l[i-1].end {
			return false
		}
	}
	return true
}

// roomy returns equal arguments, in memory of their own, with room behind the ends of all lists that is filled with junk.
func roomy(a arguments) arguments {
	eachSlice(&a, func(s reflect.Value) {
		n := s.Len()
		out := reflect.MakeSlice(s.Type(), n+2, n+2)
		reflect.Copy(out, s)
		for k := range 2 {
			spoil(out.Index(n + k))
		}
		s.Set(out.Slice(0, n))
	})
	return a
}

// separate returns equal arguments in memory of their own.
func separate(a arguments) arguments {
	var copied func(v reflect.Value) reflect.Value
	copied = func(v reflect.Value) reflect.Value {
		out := reflect.New(v.Type()).Elem()
		out.Set(v)
		switch v.Kind() {
		case reflect.Struct:
			for i := range v.NumField() {
				out.Field(i).Set(copied(v.Field(i)))
			}
		case reflect.Slice:
			if !v.IsNil() {
				out.Set(reflect.MakeSlice(v.Type(), v.Len(), v.Len()))
			}
			for i := range v.Len() {
				out.Index(i).Set(copied(v.Index(i)))
			}
		}
		return out
	}
	return copied(reflect.ValueOf(a)).Interface().(arguments)
}

// spoil changes a value, apart from slices.
func spoil(v reflect.Value) {
	switch v.Kind() {
	case reflect.Struct:
		for i := range v.NumField() {
			spoil(v.Field(i))
		}
	case reflect.String:
		v.SetString("junk")
	case reflect.Int:
		v.SetInt(-77)
	case reflect.Uint8:
		v.SetUint(77)
	}
}

// contents returns copies of the slices in what p points at up to their capacities, so that what stands behind their ends can be compared.
func contents(p any) []any {
	var l []any
	eachSlice(p, func(s reflect.Value) {
		out := reflect.MakeSlice(s.Type(), s.Cap(), s.Cap())
		reflect.Copy(out, s.Slice(0, s.Cap()))
		l = append(l, out.Interface())
	})
	return l
}

// samples returns arguments of all sorts, valid or not.
func samples() []arguments {
	r := random(61)
	var l []arguments
	add := func(c, like api.Circuit, n, more int) {
		size := len(like.Outs) + count(like, api.Dff)
		l = append(l, arguments{c, r.state(like, 3+more), r.sequence(like, n, 4+more), n, api.Response{Out: r.values(n*size+more, 4), Next: r.values(more, 4)}})
	}
	for i, c := range circuits(150, 15, 2) {
		for n := range 3 {
			add(c, c, n+i%3, 0)
		}
		add(c, c, 2, 1)
		add(c, plain(), 2, 0)
	}
	for _, f := range flaws() {
		for _, c := range flawed(f.change) {
			if len(c.Nodes) < 1000 && len(c.Outs) < 1000 {
				add(c, plain(), r.below(3), 0)
				add(c, full(), r.below(3), 0)
			}
		}
	}
	for range 100 {
		add(r.broken(), example(), r.below(3), r.below(2))
	}
	add(register(2), register(2), 1025, 0)
	return l
}

// TestSamples checks that the samples are not all alike.
func TestSamples(t *testing.T) {
	var seen [5]map[api.Errno]int
	for _, a := range samples() {
		for i, e := range callAll(a).Errors {
			if seen[i] == nil {
				seen[i] = map[api.Errno]int{}
			}
			seen[i][e]++
		}
	}
	for i, errors := range seen {
		if errors[api.OK] < 100 || errors[api.ErrLoop] < 2 || errors[api.ErrName] < 2 || errors[api.ErrWidth] < 10 || errors[api.ErrArg] < 10 || errors[api.ErrLimit] < 1 || i > 0 && i < 4 && errors[api.ErrKind] < 100 {
			t.Errorf("function %d: %v", i, errors)
		}
	}
}

// TestArgumentsUnchanged calls all functions: the arguments and what stands behind them stay as they were, and nothing there changes the results.
func TestArgumentsUnchanged(t *testing.T) {
	for i, x := range samples() {
		a := roomy(separate(x))
		before := contents(&a)
		got, want := callAll(a), callAll(x)
		if !reflect.DeepEqual(contents(&a), before) {
			t.Errorf("sample %d: an argument is changed", i)
		}
		if !reflect.DeepEqual(got, want) {
			t.Errorf("sample %d: %+v, not %+v, with room behind the arguments", i, got, want)
		}
	}
}

// TestMemoryApart checks that no two lists of the arguments and the results of two calls share memory, and that no list of the results has room behind its end.
func TestMemoryApart(t *testing.T) {
	for i, x := range samples() {
		a := separate(x)
		first, second := callAll(a), callAll(a)
		if !apart(spans(&a)) {
			t.Fatalf("sample %d: arguments share memory", i)
		}
		if !apart(slices.Concat(spans(&a), spans(first), spans(second))) {
			t.Errorf("sample %d: a result shares memory", i)
		}
		eachSlice(first, func(s reflect.Value) {
			if s.Len() != s.Cap() {
				t.Errorf("sample %d: a result of %d elements has room for %d", i, s.Len(), s.Cap())
			}
		})
	}
}

// TestResultsKept changes the arguments, and the results of another call: the results stay as they were.
func TestResultsKept(t *testing.T) {
	for i, x := range samples() {
		a := separate(x)
		got, other := callAll(a), callAll(a)
		for _, p := range []any{&a, other} {
			eachSlice(p, func(s reflect.Value) {
				for k := range s.Len() {
					spoil(s.Index(k))
				}
			})
		}
		if want := callAll(x); !reflect.DeepEqual(got, want) {
			t.Errorf("sample %d: %+v, not %+v, after other memory has changed", i, got, want)
		}
	}
}

// TestNilArguments compares nil slices with empty ones.
func TestNilArguments(t *testing.T) {
	for i, x := range samples() {
		a := separate(x)
		eachSlice(&a, func(s reflect.Value) {
			switch {
			case s.IsNil():
				s.Set(reflect.MakeSlice(s.Type(), 0, 0))
			case s.Len() == 0:
				s.SetZero()
			}
		})
		if got, want := callAll(a), callAll(x); !reflect.DeepEqual(got, want) {
			t.Errorf("sample %d: %+v for nil slices, not %+v", i, got, want)
		}
	}
}

// TestSharedArguments has cycles whose inputs, and a state whose words, are the same memory.
func TestSharedArguments(t *testing.T) {
	word, input := values("10"), values("1X111")
	s := memories.State{Dff: word[:1], Words: [][][]api.Value{{word, word, word, word}}, Read: [][]api.Value{word}}
	got, last, e := Run(ram(), s, input, input, input)
	if e != api.OK || outs(got) != "10 10 1X " || nexts(got) != "1 1 1 " || show(last) != "1; 10,1X,10,1X; 1X" || !slices.Equal(word, values("10")) {
		t.Errorf("outputs %s, next states %s, last state %s, error %d", outs(got), nexts(got), show(last), e)
	}
	if _, last, e = Run(ram(), s); e != api.OK || !sameState(last, s) || !apart(slices.Concat(spans(&last), []span{spans(&word)[0]})) {
		t.Errorf("without cycles %s, error %d", show(last), e)
	}
	all := values("011")
	p, e := Pattern(plain(), all, all, all)
	if e != api.OK || !slices.Equal(p.In, values("001111011")) || !slices.Equal(all, values("011")) {
		t.Errorf("%v, error %d", p, e)
	}
	got, e = Split(example(), 1, api.Response{Out: all[:2], Next: all[:0]})
	if e != api.OK || outs(got) != "0 " || nexts(got) != "1 " || !slices.Equal(all, values("011")) {
		t.Errorf("%v, error %d", got, e)
	}
}
