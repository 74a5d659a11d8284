package reach_test

import (
	"math"
	"reflect"
	"slices"
	"strings"
	"testing"

	"siding/api"
	"siding/reach"
)

// memory is where arguments lie: each slice has others behind its length, and all objects lie in the same bytes.
type memory struct {
	bytes []byte
	keys  []api.ID
	objs  [][]byte
	heads []api.ID
}

// parts are what a memory has: two blobs, a tree of the first one and of what is missing, two commits, and a tree with a wrong link; a further blob is behind the store.
func parts() []api.Object {
	x, y := blob("x"), blob("y")
	tr := tree(nameOf(x), api.ID{1})
	first := commitAt(1, nameOf(tr))
	second := commitAt(2, nameOf(tr), nameOf(first), api.ID{2})
	return []api.Object{x, y, tr, first, second, tree(nameOf(tr)), blob("behind")}
}

// newMemory has a store of all parts but the last one, and heads: the second commit, one that is missing and, behind them, the other blob.
func newMemory() memory {
	l := parts()
	s := of(32, l[:6]...).store()
	var m memory
	var from int
	for _, b := range append(s.Objs, []byte(encoded(l[6]))) {
		m.bytes = append(m.bytes, b...)
	}
	for _, b := range s.Objs {
		m.objs = append(m.objs, m.bytes[from:from+len(b)])
		from += len(b)
	}
	m.objs = append(m.objs, m.bytes[from:])
	m.keys = append(s.Keys, nameOf(l[6]))
	m.heads = append(namesOf(l[4]), api.ID{3}, nameOf(l[1]), nameOf(l[6]))
	return m
}

func (m memory) s() api.Store { return api.Store{Weak: 32, Keys: m.keys[:6], Objs: m.objs[:6]} }

// bad is a store with more objects than keys.
func (m memory) bad() api.Store { return api.Store{Weak: 32, Keys: m.keys[:5], Objs: m.objs[:6]} }

// result is all that a call returns, but for an error.
type result struct {
	L []api.ID
	S api.Store
}

func (r result) equal(other result) bool {
	return slices.Equal(r.L, other.L) && sameStore(r.S, other.S)
}

// calls are all functions, and whether they have an error.
func calls() map[string]func(m memory) (result, bool) {
	listed := func(l []api.ID, e api.Errno) (result, bool) { return result{L: l}, e != api.OK }
	made := func(s api.Store, e api.Errno) (result, bool) { return result{S: s}, e != api.OK }
	return map[string]func(m memory) (result, bool){
		"reach":                    func(m memory) (result, bool) { return listed(reach.Reach(m.s(), m.heads[:2])) },
		"reach from one":           func(m memory) (result, bool) { return listed(reach.Reach(m.s(), m.heads[:1])) },
		"reach from nothing":       func(m memory) (result, bool) { return listed(reach.Reach(m.s(), m.heads[:0])) },
		"reach from keys":          func(m memory) (result, bool) { return listed(reach.Reach(m.s(), m.keys[:6])) },
		"reach in nothing":         func(m memory) (result, bool) { return listed(reach.Reach(empty(m), m.heads)) },
		"missing":                  func(m memory) (result, bool) { return listed(reach.Missing(m.s(), m.heads[:2])) },
		"missing from one":         func(m memory) (result, bool) { return listed(reach.Missing(m.s(), m.heads[:1])) },
		"missing from nothing":     func(m memory) (result, bool) { return listed(reach.Missing(m.s(), m.heads[:0])) },
		"missing from keys":        func(m memory) (result, bool) { return listed(reach.Missing(m.s(), m.keys)) },
		"missing in nothing":       func(m memory) (result, bool) { return listed(reach.Missing(empty(m), m.heads[:3])) },
		"garbage":                  func(m memory) (result, bool) { return listed(reach.Garbage(m.s(), m.heads[:2])) },
		"garbage from nothing":     func(m memory) (result, bool) { return listed(reach.Garbage(m.s(), m.heads[:0])) },
		"garbage from keys":        func(m memory) (result, bool) { return listed(reach.Garbage(m.s(), m.keys[:3])) },
		"sweep":                    func(m memory) (result, bool) { return made(reach.Sweep(m.s(), m.heads[:2])) },
		"sweep all":                func(m memory) (result, bool) { return made(reach.Sweep(m.s(), m.heads[:0])) },
		"sweep nothing":            func(m memory) (result, bool) { return made(reach.Sweep(m.s(), m.keys[:6])) },
		"sweep an empty store":     func(m memory) (result, bool) { return made(reach.Sweep(empty(m), m.heads[:2])) },
		"wrong":                    func(m memory) (result, bool) { return listed(reach.Wrong(m.s())) },
		"wrong in nothing":         func(m memory) (result, bool) { return listed(reach.Wrong(empty(m))) },
		"error: reach":             func(m memory) (result, bool) { return listed(reach.Reach(m.bad(), m.heads[:2])) },
		"error: reach, many heads": func(m memory) (result, bool) { return listed(reach.Reach(m.s(), manyHeads(m))) },
		"error: missing":           func(m memory) (result, bool) { return listed(reach.Missing(m.bad(), m.heads[:2])) },
		"error: missing, many":     func(m memory) (result, bool) { return listed(reach.Missing(m.s(), manyHeads(m))) },
		"error: garbage":           func(m memory) (result, bool) { return listed(reach.Garbage(m.bad(), m.heads[:2])) },
		"error: garbage, many":     func(m memory) (result, bool) { return listed(reach.Garbage(m.s(), manyHeads(m))) },
		"error: sweep":             func(m memory) (result, bool) { return made(reach.Sweep(m.bad(), m.heads[:2])) },
		"error: sweep, many heads": func(m memory) (result, bool) { return made(reach.Sweep(m.s(), manyHeads(m))) },
		"error: wrong":             func(m memory) (result, bool) { return listed(reach.Wrong(m.bad())) },
		"error: wrong, another one": func(m memory) (result, bool) {
			return listed(reach.Wrong(api.Store{Weak: 31, Keys: m.keys[:6], Objs: m.objs[:6]}))
		},
	}
}

// empty is a store without objects, but with room for some.
func empty(m memory) api.Store { return api.Store{Weak: 7, Keys: m.keys[:0], Objs: m.objs[:0]} }

// manyHeads are more than there may be.
func manyHeads(m memory) []api.ID { return slices.Repeat(m.heads[:3], 67) }

// span is where a slice lies, with what is behind its length.
type span struct{ from, to uintptr }

// spans are those of all slices of a value.
func spans(v reflect.Value) []span {
	var l []span
	switch v.Kind() {
	case reflect.Struct:
		for i := range v.NumField() {
			l = append(l, spans(v.Field(i))...)
		}
	case reflect.Slice:
		if from, size := v.Pointer(), v.Type().Elem().Size(); v.Cap() > 0 {
			l = append(l, span{from, from + uintptr(v.Cap())*size})
		}
		for i := range v.Len() {
			l = append(l, spans(v.Index(i))...)
		}
	}
	return l
}

// overlap reports whether one of some slices lies where one of the others does.
func overlap(some, others []span) bool {
	for _, a := range some {
		for _, b := range others {
			if a.from < b.to && b.from < a.to {
				return true
			}
		}
	}
	return false
}

// What the calls return, so that the tests below look at something.
func TestMemory(t *testing.T) {
	m, l := newMemory(), parts()
	wantLists(t, "memory", m.s(), m.heads[:2], lists{of(32, l[0], l[2], l[3], l[4]).keys(), ids{{1}, {2}, {3}}, of(32, l[1], l[5]).keys()})
	wantWrong(t, "memory", of(32, l...), l[5])
}

// R1, R2

func TestArgumentsStay(t *testing.T) {
	for what, call := range calls() {
		m := newMemory()
		got, failed := call(m)
		if failed != strings.HasPrefix(what, "error") {
			t.Error(what, failed)
		}
		if failed && !got.equal(result{}) {
			t.Error(what, brief(got))
		}
		if !reflect.DeepEqual(m, newMemory()) {
			t.Error(what, "an argument changed")
		}
	}
}

// Nothing is written behind the heads, however many there are, and however much room is there.
func TestBehindTheHeads(t *testing.T) {
	l := append(chain(50, 1, 2), tree())
	s := of(32, l...).store()
	for n := range 10 {
		room := make(ids, 1000)
		for i := range room {
			room[i] = nameOf(l[49-i%50])
		}
		kept := slices.Clone(room)
		wantLists(t, "room", s, room[:n], of(32, l...).lists(room[:n]))
		if !slices.Equal(room, kept) {
			t.Error(n, "the heads changed, or what is behind them")
		}
	}
}

func TestResultsShareNoMemory(t *testing.T) {
	for what, call := range calls() {
		m := newMemory()
		first, _ := call(m)
		second, _ := call(m)
		if !first.equal(second) {
			t.Error(what, brief(first), brief(second))
		}
		l := spans(reflect.ValueOf(first))
		for i := range l {
			if overlap(l[i:i+1], l[i+1:]) {
				t.Error(what, "the parts of a result share memory")
			}
		}
		if overlap(l, spans(reflect.ValueOf(m))) {
			t.Error(what, "a result shares memory with an argument")
		}
		if overlap(l, spans(reflect.ValueOf(second))) {
			t.Error(what, "results share memory")
		}
	}
}

func TestResultsStayWhenArgumentsChange(t *testing.T) {
	for what, call := range calls() {
		m := newMemory()
		got, _ := call(m)
		kept, _ := call(newMemory())
		clear(m.bytes)
		clear(m.keys)
		clear(m.objs)
		clear(m.heads)
		if !got.equal(kept) {
			t.Error(what)
		}
	}
}

// What was called before, with or without an error, does not matter.
func TestNothingIsKept(t *testing.T) {
	for what, call := range calls() {
		want, _ := call(newMemory())
		for before, other := range calls() {
			other(newMemory())
			if got, _ := call(newMemory()); !got.equal(want) {
				t.Error(what, "behind", before)
			}
		}
	}
}

// The heads may be the keys of the store, in the same memory.
func TestHeadsAreTheKeys(t *testing.T) {
	s := of(32, parts()...).store()
	for from := range s.Keys {
		for to := from; to <= len(s.Keys); to++ {
			wantModel(t, "keys", of(32, parts()...), s.Keys[from:to])
			wantLists(t, "keys", s, s.Keys[from:to], of(32, parts()...).lists(s.Keys[from:to]))
		}
	}
}

// R3

func TestNilAndEmptyAreEqual(t *testing.T) {
	x := blob("x")
	for _, weak := range []int{1, 32} {
		for _, heads := range []ids{nil, {}, make(ids, 0, 5), namesOf(x)[:0]} {
			wantLists(t, "no heads", of(weak, x).store(), heads, lists{garbage: of(weak, x).keys()})
			for _, s := range []api.Store{{Weak: weak}, {Weak: weak, Keys: []api.ID{}, Objs: [][]byte{}}, {Weak: weak, Keys: []api.ID{}}, {Weak: weak, Objs: [][]byte{}}, {Weak: weak, Keys: make([]api.ID, 0, 5), Objs: [][]byte{nil, {1}}[:0]}} {
				wantLists(t, "nothing", s, heads, lists{})
				wantLists(t, "a head in nothing", s, append(heads, nameOf(x)), lists{missing: of(weak, x).keys()})
				if got, e := reach.Wrong(s); len(got) > 0 || e != api.OK {
					t.Error(short(got), e)
				}
			}
		}
	}
}

// R7

func TestNoCallPanics(t *testing.T) {
	var stores []api.Store
	for _, s := range badStores() {
		stores = append(stores, s)
	}
	good := of(32, parts()...).store()
	keys, objs := make([]api.ID, 1<<16), make([][]byte, 1<<16)
	long := make([]byte, 1<<20)
	for _, weak := range []int{math.MinInt, -1, 0, 1, 2, 31, 32, 33, 256, 1 << 32, math.MaxInt} {
		stores = append(stores,
			api.Store{Weak: weak},
			api.Store{Weak: weak, Keys: make([]api.ID, 3)},
			api.Store{Weak: weak, Objs: make([][]byte, 3)},
			api.Store{Weak: weak, Keys: make([]api.ID, 1), Objs: make([][]byte, 1)},
			api.Store{Weak: weak, Keys: keys, Objs: objs},
			api.Store{Weak: weak, Keys: make([]api.ID, 1), Objs: [][]byte{long}},
			api.Store{Weak: weak, Keys: good.Keys, Objs: good.Objs},
		)
	}
	rows := []ids{nil, {{}}, good.Keys, make(ids, 200), make(ids, 201), make(ids, 1<<20)}
	for _, s := range stores {
		for _, heads := range rows {
			reach.Reach(s, heads)
			reach.Missing(s, heads)
			reach.Garbage(s, heads)
			reach.Sweep(s, heads)
		}
		reach.Wrong(s)
	}
}
