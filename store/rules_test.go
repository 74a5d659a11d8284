package store_test

import (
	"math"
	"reflect"
	"strings"
	"testing"

	"siding/api"
	"siding/store"
)

// memory is where arguments lie: each slice has others behind its length, and the objects of both stores lie in the same bytes.
type memory struct {
	bytes       []byte
	first       []api.ID
	second      []api.ID
	firstObjs   [][]byte
	secondObjs  [][]byte
	entries     []api.Entry
	text        []byte
	one, two, x api.Object
}

// newMemory has a store of two objects, and one of three that has one of them, too; a further object lies behind each of them.
func newMemory() memory {
	l := sorted(apart(32, 5))
	var m memory
	var ends []int
	for _, o := range l {
		m.bytes = append(m.bytes, encoded(o)...)
		ends = append(ends, len(m.bytes))
	}
	part := func(i int) []byte {
		if i == 0 {
			return m.bytes[:ends[0]]
		}
		return m.bytes[ends[i-1]:ends[i]]
	}
	for _, i := range []int{1, 3, 4} {
		m.first = append(m.first, nameOf(l[i]))
		m.firstObjs = append(m.firstObjs, part(i))
	}
	for _, i := range []int{0, 1, 2, 4} {
		m.second = append(m.second, nameOf(l[i]))
		m.secondObjs = append(m.secondObjs, part(i))
	}
	m.text = append([]byte(nil), string(l[0].Text)+string(l[3].Text)+"behind"...)
	n := len(l[0].Text)
	m.one = api.Object{Kind: api.ObjBlob, Text: m.text[:n]}
	m.two = api.Object{Kind: api.ObjBlob, Text: m.text[n : n+len(l[3].Text)]}
	m.entries = []api.Entry{{Path: "a"}, {Path: "b", Blob: api.ID{1}}, {Path: ""}}
	m.x = tree(m.entries[:2]...)
	return m
}

// s and u are the stores of a memory.

func (m memory) s() api.Store { return api.Store{Weak: 32, Keys: m.first[:2], Objs: m.firstObjs[:2]} }

func (m memory) u() api.Store {
	return api.Store{Weak: 32, Keys: m.second[:3], Objs: m.secondObjs[:3]}
}

// bad is a store with more objects than keys.
func (m memory) bad() api.Store {
	return api.Store{Weak: 32, Keys: m.first[:1], Objs: m.firstObjs[:2]}
}

// result is all that a call returns, but for an error.
type result struct {
	S  api.Store
	ID api.ID
	O  api.Object
	Is bool
}

func (r result) equal(other result) bool {
	return sameStore(r.S, other.S) && r.ID == other.ID && same(r.O, other.O) && r.Is == other.Is
}

// calls are all functions, and whether they have an error.
func calls() map[string]func(m memory) (result, bool) {
	made := func(s api.Store, e api.Errno) (result, bool) { return result{S: s}, e != api.OK }
	check := func(e api.Errno) (result, bool) { return result{}, e != api.OK }
	key := func(id api.ID, e api.Errno) (result, bool) { return result{ID: id}, e != api.OK }
	put := func(s api.Store, id api.ID, e api.Errno) (result, bool) { return result{S: s, ID: id}, e != api.OK }
	has := func(is bool, e api.Errno) (result, bool) { return result{Is: is}, e != api.OK }
	get := func(o api.Object, e api.Errno) (result, bool) { return result{O: o}, e != api.OK }
	return map[string]func(m memory) (result, bool){
		"new":                     func(m memory) (result, bool) { return made(store.New(7)) },
		"check":                   func(m memory) (result, bool) { return check(store.Check(m.s())) },
		"key of a blob":           func(m memory) (result, bool) { return key(store.Key(m.s(), m.one)) },
		"key of a tree":           func(m memory) (result, bool) { return key(store.Key(m.u(), m.x)) },
		"put before":              func(m memory) (result, bool) { return put(store.Put(m.s(), m.one)) },
		"put behind":              func(m memory) (result, bool) { return put(store.Put(m.u(), m.two)) },
		"put again":               func(m memory) (result, bool) { return put(store.Put(m.s(), m.two)) },
		"put again at first":      func(m memory) (result, bool) { return put(store.Put(m.u(), m.one)) },
		"put a tree":              func(m memory) (result, bool) { return put(store.Put(m.u(), m.x)) },
		"put into nothing":        func(m memory) (result, bool) { return put(store.Put(api.Store{Weak: 1, Keys: m.first[:0]}, m.one)) },
		"has":                     func(m memory) (result, bool) { return has(store.Has(m.s(), m.first[0])) },
		"has not":                 func(m memory) (result, bool) { return has(store.Has(m.s(), m.first[2])) },
		"get":                     func(m memory) (result, bool) { return get(store.Get(m.s(), m.first[1])) },
		"get at first":            func(m memory) (result, bool) { return get(store.Get(m.u(), m.second[0])) },
		"join":                    func(m memory) (result, bool) { return made(store.Join(m.s(), m.u())) },
		"join in the other order": func(m memory) (result, bool) { return made(store.Join(m.u(), m.s())) },
		"join with itself":        func(m memory) (result, bool) { return made(store.Join(m.u(), m.u())) },
		"join with nothing":       func(m memory) (result, bool) { return made(store.Join(m.s(), api.Store{Weak: 32})) },
		"join nothing":            func(m memory) (result, bool) { return made(store.Join(api.Store{Weak: 32}, m.s())) },
		"error: new":              func(m memory) (result, bool) { return made(store.New(33)) },
		"error: check":            func(m memory) (result, bool) { return check(store.Check(m.bad())) },
		"error: key":              func(m memory) (result, bool) { return key(store.Key(m.s(), tree(m.entries...))) },
		"error: key, bad store":   func(m memory) (result, bool) { return key(store.Key(m.bad(), m.one)) },
		"error: put":              func(m memory) (result, bool) { return put(store.Put(m.s(), tree(m.entries...))) },
		"error: put, bad store":   func(m memory) (result, bool) { return put(store.Put(m.bad(), m.one)) },
		"error: put, full store":  func(m memory) (result, bool) { return put(store.Put(full(), m.x)) },
		"error: put, a clash":     func(m memory) (result, bool) { return put(store.Put(weakest(m), m.two)) },
		"error: has":              func(m memory) (result, bool) { return has(store.Has(m.bad(), m.first[0])) },
		"error: get":              func(m memory) (result, bool) { return get(store.Get(m.bad(), m.first[0])) },
		"error: get what is not":  func(m memory) (result, bool) { return get(store.Get(m.s(), m.first[2])) },
		"error: join":             func(m memory) (result, bool) { return made(store.Join(m.bad(), m.s())) },
		"error: join, second":     func(m memory) (result, bool) { return made(store.Join(m.s(), m.bad())) },
		"error: join, other weak": func(m memory) (result, bool) { return made(store.Join(m.s(), api.Store{Weak: 31})) },
		"error: join, full store": func(m memory) (result, bool) { return made(store.Join(full(), whole(m.x))) },
		"error: join, to be full": func(m memory) (result, bool) { return made(store.Join(whole(m.x), full())) },
		"error: join, a clash":    func(m memory) (result, bool) { return made(store.Join(weakest(m), clash(m))) },
		"error: join, clash with": func(m memory) (result, bool) { return made(store.Join(clash(m), weakest(m))) },
	}
}

// full is a store of as many objects as there can be.
func full() api.Store { return made(32, apart(32, 200)...) }

// whole is a store of an object with its whole name.
func whole(o api.Object) api.Store { return made(32, o) }

// weakest is a store with Weak 1 in which an object has the key of the second object of a memory; clash has that object.
func weakest(m memory) api.Store {
	id := nameOf(m.two)
	return made(1, beginning(string(id[:1]), m.two))
}

func clash(m memory) api.Store { return made(1, m.two) }

// span is where a slice lies, with what is behind its length.
type span struct{ from, to uintptr }

// spans are those of all slices of a value.
func spans(v reflect.Value) []span {
	var l []span
	switch v.Kind() {
	case reflect.Struct:
		for i := range v.NumField() {
			l = append(l, spans(v.Field(i))...)
		}
	case reflect.Slice:
		if from, size := v.Pointer(), v.Type().Elem().Size(); v.Cap() > 0 {
			l = append(l, span{from, from + uintptr(v.Cap())*size})
		}
		for i := range v.Len() {
			l = append(l, spans(v.Index(i))...)
		}
	}
	return l
}

// overlap reports whether one of some slices lies where one of the others does.
func overlap(some, others []span) bool {
	for _, a := range some {
		for _, b := range others {
			if a.from < b.to && b.from < a.to {
				return true
			}
		}
	}
	return false
}

// R1, R2

func TestArgumentsStay(t *testing.T) {
	for what, call := range calls() {
		m := newMemory()
		got, failed := call(m)
		if failed != strings.HasPrefix(what, "error") {
			t.Error(what, failed)
		}
		if failed && !got.equal(result{}) {
			t.Error(what, brief(got))
		}
		if !reflect.DeepEqual(m, newMemory()) {
			t.Error(what, "an argument changed")
		}
	}
}

func TestResultsShareNoMemory(t *testing.T) {
	for what, call := range calls() {
		m := newMemory()
		first, _ := call(m)
		second, _ := call(m)
		if !first.equal(second) {
			t.Error(what, brief(first), brief(second))
		}
		l := spans(reflect.ValueOf(first))
		for i := range l {
			if overlap(l[i:i+1], l[i+1:]) {
				t.Error(what, "the parts of a result share memory")
			}
		}
		if overlap(l, spans(reflect.ValueOf(m))) {
			t.Error(what, "a result shares memory with an argument")
		}
		if overlap(l, spans(reflect.ValueOf(second))) {
			t.Error(what, "results share memory")
		}
	}
}

func TestResultsStayWhenArgumentsChange(t *testing.T) {
	for what, call := range calls() {
		m := newMemory()
		got, _ := call(m)
		kept, _ := call(newMemory())
		clear(m.bytes)
		clear(m.first)
		clear(m.second)
		clear(m.firstObjs)
		clear(m.secondObjs)
		clear(m.entries)
		clear(m.text)
		if !got.equal(kept) {
			t.Error(what)
		}
	}
}

// What is put on top of one store is not seen in others that were made of the same one.
func TestStoresOfOneStore(t *testing.T) {
	l := sorted(apart(32, 9))
	s := made(32, l[4])
	var stores []api.Store
	for _, o := range l {
		got, _, _ := store.Put(s, o)
		stores = append(stores, got)
	}
	for i, got := range stores {
		want := s
		if i != 4 {
			want = made(32, l[4], l[i])
		}
		if !sameStore(got, want) {
			t.Error(i, brief(got), brief(want))
		}
	}
	if !sameStore(s, made(32, l[4])) {
		t.Error(brief(s))
	}
}

// What was called before, with or without an error, does not matter.
func TestNothingIsKept(t *testing.T) {
	for what, call := range calls() {
		want, _ := call(newMemory())
		for before, other := range calls() {
			other(newMemory())
			if got, _ := call(newMemory()); !got.equal(want) {
				t.Error(what, "behind", before)
			}
		}
	}
}

// R3

func TestNilAndEmptyAreEqual(t *testing.T) {
	for _, weak := range []int{1, 32} {
		for _, s := range []api.Store{{Weak: weak}, {Weak: weak, Keys: []api.ID{}, Objs: [][]byte{}}, {Weak: weak, Keys: []api.ID{}}, {Weak: weak, Objs: [][]byte{}}, {Weak: weak, Keys: make([]api.ID, 0, 5), Objs: [][]byte{nil, {1}}[:0]}} {
			wantValid(t, "empty", s)
			wantNone(t, "empty", s, api.ID{})
			wantPut(t, "empty", s, blob("a"), made(weak, blob("a")))
			wantBoth(t, "empty", s, api.Store{Weak: weak}, api.Store{Weak: weak})
			wantBoth(t, "empty", s, made(weak, blob("a")), made(weak, blob("a")))
		}
		for _, o := range []api.Object{{Kind: 1}, {Kind: 1, Text: []byte{}, Tree: []api.Entry{}, Commit: api.Commit{Parents: []api.ID{}}}} {
			wantPut(t, "an empty text", api.Store{Weak: weak}, o, made(weak, blob("")))
			wantPut(t, "an empty text again", made(weak, blob("")), o, made(weak, blob("")))
			wantKey(t, "an empty text", api.Store{Weak: weak}, o, keyOf(nameOf(blob("")), weak), api.OK)
		}
		key := keyOf(nameOf(blob("a")), weak)
		for _, b := range [][]byte{nil, {}} {
			wantBad(t, "an object without bytes", api.Store{Weak: weak, Keys: []api.ID{key}, Objs: [][]byte{b}})
		}
	}
}

// R7

func TestNoCallPanics(t *testing.T) {
	var objects []api.Object
	for _, o := range badObjects() {
		objects = append(objects, o)
	}
	objects = append(objects, someObjects()...)
	objects = append(objects, blob(strings.Repeat("a", 1<<20)), tree(make([]api.Entry, 1<<16)...), commit(api.Commit{Parents: make([]api.ID, 1<<16), Tick: math.MinInt}))
	var stores []api.Store
	for _, weak := range append(extremes, 1, 2, 31, 32) {
		stores = append(stores,
			api.Store{Weak: weak},
			api.Store{Weak: weak, Keys: make([]api.ID, 3)},
			api.Store{Weak: weak, Objs: make([][]byte, 3)},
			api.Store{Weak: weak, Keys: make([]api.ID, 1), Objs: make([][]byte, 1)},
			api.Store{Weak: weak, Keys: make([]api.ID, 1<<16), Objs: make([][]byte, 1<<16)},
			api.Store{Weak: weak, Keys: make([]api.ID, 1), Objs: [][]byte{make([]byte, 1<<20)}},
			api.Store{Weak: weak, Keys: made(32, apart(32, 5)...).Keys, Objs: made(32, apart(32, 5)...).Objs},
		)
		store.New(weak)
	}
	for _, s := range stores {
		for _, o := range objects {
			store.Key(s, o)
			store.Put(s, o)
		}
		store.Check(s)
		store.Has(s, api.ID{})
		store.Get(s, nameOf(numbered(0)))
		for _, u := range stores {
			store.Join(s, u)
		}
	}
}
