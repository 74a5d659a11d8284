package codec_test

import (
	"bytes"
	"slices"
	"strings"
	"testing"

	"siding/api"
	"siding/codec"
)

// memory is where arguments lie: each slice has others behind its length.
type memory struct {
	bytes  []byte
	values []api.Value
}

func newMemory() memory {
	b := []byte("abc--def\x03\x02\x02\x02hi\x03\x01\x02\x02jk--after")
	inner := []api.Value{number(4), {Kind: api.ValBytes, Bytes: b[5:8]}, number(5), {Kind: 9}}
	outer := []api.Value{{Kind: api.ValBytes, Bytes: b[:3]}, {Kind: api.ValList, List: inner[:2]}, number(6), {Kind: 9}}
	return memory{bytes: b, values: outer}
}

// value is one of which all slices lie in the memory.
func (m memory) value() api.Value { return api.Value{Kind: api.ValList, List: m.values[:3]} }

// encoded are bytes in the memory.
func (m memory) encoded() []byte { return m.bytes[8:20] }

func (m memory) inner() []api.Value { return m.values[1].List[:cap(m.values[1].List)] }

func (m memory) equal(other memory) bool {
	return bytes.Equal(m.bytes, other.bytes) && slices.EqualFunc(m.values, other.values, same) && slices.EqualFunc(m.inner(), other.inner(), same)
}

// result is all that a call returns.
type result struct {
	v api.Value
	b []byte
}

func (r result) equal(other result) bool { return same(r.v, other.v) && bytes.Equal(r.b, other.b) }

// calls are all functions, and whether they have an error.
func calls() map[string]func(m memory) (result, bool) {
	bad := func(m memory) api.Value { return api.Value{Kind: api.ValList, List: m.values} }
	return map[string]func(m memory) (result, bool){
		"check": func(m memory) (result, bool) { return result{}, codec.Check(m.value()) != api.OK },
		"size": func(m memory) (result, bool) {
			_, e := codec.Size(m.value())
			return result{}, e != api.OK
		},
		"encode": func(m memory) (result, bool) {
			b, e := codec.Encode(m.value())
			return result{b: b}, e != api.OK
		},
		"encode bytes": func(m memory) (result, bool) {
			b, e := codec.Encode(m.values[0])
			return result{b: b}, e != api.OK
		},
		"decode": func(m memory) (result, bool) {
			v, e := codec.Decode(m.encoded())
			return result{v: v}, e != api.OK
		},
		"next": func(m memory) (result, bool) {
			v, _, e := codec.Next(m.bytes[8:])
			return result{v: v}, e != api.OK
		},
		"next of bytes": func(m memory) (result, bool) {
			v, _, e := codec.Next(m.bytes[10:])
			return result{v: v}, e != api.OK
		},
		"cmp": func(m memory) (result, bool) {
			_, e := codec.Cmp(m.value(), m.values[1])
			return result{}, e != api.OK
		},
		"cmp of the same": func(m memory) (result, bool) {
			_, e := codec.Cmp(m.value(), m.value())
			return result{}, e != api.OK
		},
		"error: encode": func(m memory) (result, bool) {
			b, e := codec.Encode(bad(m))
			return result{b: b}, e != api.OK
		},
		"error: cmp": func(m memory) (result, bool) {
			_, e := codec.Cmp(m.value(), bad(m))
			return result{}, e != api.OK
		},
		"error: decode": func(m memory) (result, bool) {
			v, e := codec.Decode(m.bytes[8:])
			return result{v: v}, e != api.OK
		},
		"error: next": func(m memory) (result, bool) {
			v, _, e := codec.Next(m.bytes[8:19:19])
			return result{v: v}, e != api.OK
		},
	}
}

// parts are all slices of a result, that of a list before those of its elements.
func parts(r result) (bytes [][]byte, lists [][]api.Value) {
	bytes = append(bytes, r.b, r.v.Bytes)
	if r.v.List != nil {
		lists = append(lists, r.v.List)
	}
	for _, e := range r.v.List {
		b, l := parts(result{v: e})
		bytes, lists = append(bytes, b...), append(lists, l...)
	}
	return bytes, lists
}

func scribble(b []byte) {
	b = b[:cap(b)]
	for i := range b {
		b[i] ^= 0xff
	}
}

func scribbleValues(l []api.Value) {
	l = l[:cap(l)]
	for i := range l {
		l[i] = number(99)
	}
}

// R2

func TestArgumentsStay(t *testing.T) {
	for name, call := range calls() {
		m := newMemory()
		if _, failed := call(m); failed != strings.HasPrefix(name, "error") {
			t.Error(name, failed)
		}
		if !m.equal(newMemory()) {
			t.Error(name)
		}
	}
}

func TestResultsShareNoMemory(t *testing.T) {
	for name, call := range calls() {
		m := newMemory()
		first, _ := call(m)
		second, _ := call(m)
		kept, _ := call(newMemory())
		b, l := parts(first)
		keptBytes, _ := parts(kept)
		for i := range b {
			scribble(b[i])
			for k := i + 1; k < len(b); k++ {
				if !bytes.Equal(b[k], keptBytes[k]) {
					t.Error(name, "the parts of a result share memory")
				}
			}
		}
		for _, values := range l {
			scribbleValues(values)
		}
		if !m.equal(newMemory()) {
			t.Error(name, "a result shares memory with an argument")
		}
		if !second.equal(kept) {
			t.Error(name, "results share memory")
		}
	}
}

// The lists of a value lie apart, so that appending to one of them does not change another.
func TestListsOfAResultLieApart(t *testing.T) {
	v, _ := codec.Decode(encoded(list(list(number(1)), list(number(2)), list(number(3)))))
	for i := range v.List {
		scribbleValues(v.List[i].List)
		for k := i + 1; k < 3; k++ {
			if want := list(number(int64(k + 1))); !same(v.List[k], want) {
				t.Error(i, k, v.List[k])
			}
		}
	}
}

func TestResultsStayWhenArgumentsChange(t *testing.T) {
	for name, call := range calls() {
		m := newMemory()
		got, _ := call(m)
		kept, _ := call(newMemory())
		scribbleValues(m.inner())
		scribbleValues(m.values)
		scribble(m.bytes)
		if !got.equal(kept) {
			t.Error(name)
		}
	}
}

// R3

func TestNilAndEmptyAreEqual(t *testing.T) {
	empties := []api.Value{
		{Kind: 1, Bytes: []byte{}, List: []api.Value{}},
		{Kind: 2, Bytes: []byte{}, List: []api.Value{}},
		{Kind: 3, Bytes: []byte{}, List: []api.Value{}},
		{Kind: 1, Bytes: []byte("abc")[:0], List: []api.Value{{}}[:0]},
		{Kind: 2, Bytes: []byte("abc")[:0], List: []api.Value{{}}[:0]},
		{Kind: 3, Bytes: []byte("abc")[:0], List: []api.Value{{}}[:0]},
	}
	for _, v := range empties {
		plain := api.Value{Kind: v.Kind}
		for lists := range 6 {
			wantValid(t, "empty", among(lists, v), encoded(among(lists, plain)))
			wantCmp(t, "empty", among(lists, v), among(lists, plain), 0, api.OK)
			wantCmp(t, "empty", among(lists, plain), among(lists, v), 0, api.OK)
		}
	}
	wantForm(t, "nil", nil)
	wantForm(t, "empty", []byte{})
}

// R7

// A list that has itself as an element is too deep.
func TestListInItself(t *testing.T) {
	for _, n := range []int{1, 2, 1000} {
		l := many(n, number(1))
		l.List[n-1].Kind = 3
		l.List[n-1].Num = 0
		l.List[n-1].List = l.List
		wantInvalid(t, "a list in itself", l, api.ErrBad)
		wantCmp(t, "a list in itself", l, l, 0, api.ErrBad)
	}
	for i := range 3 {
		l := many(3, list())
		for k := range i + 1 {
			l.List[k].List = l.List
		}
		wantInvalid(t, "a list in itself", l, api.ErrBad)
	}
}

func TestNoCallPanics(t *testing.T) {
	var all []api.Value
	for _, c := range validValues() {
		all = append(all, c.v)
	}
	for _, some := range []map[string]api.Value{badValues(), manyBytes()} {
		for _, v := range some {
			all = append(all, v)
		}
	}
	for _, a := range all {
		codec.Check(a)
		codec.Size(a)
		codec.Encode(a)
		for _, b := range all {
			codec.Cmp(a, b)
		}
	}
	for _, b := range badBytes() {
		for n := range min(len(b), 50) {
			codec.Decode([]byte(b[n:]))
			codec.Next([]byte(b[n:]))
		}
	}
}
