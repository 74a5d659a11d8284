package delta_test

import (
	"bytes"
	"reflect"
	"slices"
	"strings"
	"testing"

	"siding/api"
	"siding/delta"
)

// memory is where arguments lie: each slice has others behind its length, and Data lie in the bytes of the base.
type memory struct {
	bytes []byte
	l     parts
	again []byte
}

// newMemory has a base of 12 bytes with others behind it, a delta of four parts with a fifth one that is none, and the bytes of a delta.
func newMemory() memory {
	b := []byte("abcdefghijkl-behind-")
	l := parts{{At: 2, N: 3, Data: b[3:3]}, {Data: b[4:7]}, {Data: b[12:14]}, {At: 0, N: 12}, {At: -1, N: 1, Data: b[1:2]}}
	again := []byte(encoded(parts{inserted("xy"), copied(0, 2), inserted("z")}) + "\x00behind")
	return memory{bytes: b, l: l, again: again}
}

func (m memory) base() []byte { return m.bytes[:12] }

// target is a part of the base, and what stands behind it.
func (m memory) target() []byte { return m.bytes[6:16] }

func (m memory) delta() parts { return m.l[:4] }

// encoded are bytes of a delta; one more byte makes them those of none.
func (m memory) encoded() []byte { return m.again[:len(m.again)-len("\x00behind")] }

// result is all that a call returns, but for an error.
type result struct {
	B    []byte
	L    parts
	Cost int
}

func (r result) equal(other result) bool {
	return bytes.Equal(r.B, other.B) && same(r.L, other.L) && r.Cost == other.Cost
}

// calls are all functions, and whether they have an error.
func calls() map[string]func(m memory) (result, bool) {
	check := func(e api.Errno) (result, bool) { return result{}, e != api.OK }
	cost := func(n int, e api.Errno) (result, bool) { return result{Cost: n}, e != api.OK }
	made := func(b []byte, e api.Errno) (result, bool) { return result{B: b}, e != api.OK }
	parted := func(l parts, e api.Errno) (result, bool) { return result{L: l}, e != api.OK }
	return map[string]func(m memory) (result, bool){
		"check":                     func(m memory) (result, bool) { return check(delta.Check(m.delta(), 12)) },
		"cost":                      func(m memory) (result, bool) { return cost(delta.Cost(m.delta())) },
		"apply":                     func(m memory) (result, bool) { return made(delta.Apply(m.base(), m.delta())) },
		"apply a copy":              func(m memory) (result, bool) { return made(delta.Apply(m.base(), m.l[3:4])) },
		"apply an insert":           func(m memory) (result, bool) { return made(delta.Apply(m.base(), m.l[1:2])) },
		"apply nothing":             func(m memory) (result, bool) { return made(delta.Apply(m.base(), m.l[:0])) },
		"apply to nothing":          func(m memory) (result, bool) { return made(delta.Apply(m.bytes[:0], m.l[1:3])) },
		"make":                      func(m memory) (result, bool) { return parted(delta.Make(m.base(), m.target())) },
		"make the base":             func(m memory) (result, bool) { return parted(delta.Make(m.base(), m.base())) },
		"make of nothing":           func(m memory) (result, bool) { return parted(delta.Make(m.bytes[:0], m.target())) },
		"make nothing":              func(m memory) (result, bool) { return parted(delta.Make(m.base(), m.bytes[:0])) },
		"make many parts":           func(m memory) (result, bool) { return parted(delta.Make(m.base(), mixed(m))) },
		"encode":                    func(m memory) (result, bool) { return made(delta.Encode(m.delta())) },
		"encode an insert":          func(m memory) (result, bool) { return made(delta.Encode(m.l[1:2])) },
		"encode nothing":            func(m memory) (result, bool) { return made(delta.Encode(m.l[:0])) },
		"decode":                    func(m memory) (result, bool) { return parted(delta.Decode(m.encoded())) },
		"error: check":              func(m memory) (result, bool) { return check(delta.Check(m.l, 12)) },
		"error: check, range":       func(m memory) (result, bool) { return check(delta.Check(m.delta(), 11)) },
		"error: check, many":        func(m memory) (result, bool) { return check(delta.Check(many(m), 12)) },
		"error: cost":               func(m memory) (result, bool) { return cost(delta.Cost(m.l)) },
		"error: cost, many":         func(m memory) (result, bool) { return cost(delta.Cost(many(m))) },
		"error: apply":              func(m memory) (result, bool) { return made(delta.Apply(m.base(), m.l)) },
		"error: apply, range":       func(m memory) (result, bool) { return made(delta.Apply(m.bytes[:11], m.delta())) },
		"error: apply, a long base": func(m memory) (result, bool) { return made(delta.Apply(make([]byte, 2001), m.delta())) },
		"error: apply, many":        func(m memory) (result, bool) { return made(delta.Apply(m.base(), many(m))) },
		"error: apply, long":        func(m memory) (result, bool) { return made(delta.Apply(m.base(), long(m))) },
		"error: make":               func(m memory) (result, bool) { return parted(delta.Make(m.base(), make([]byte, 301))) },
		"error: make, a long base":  func(m memory) (result, bool) { return parted(delta.Make(make([]byte, 301), m.base())) },
		"error: encode":             func(m memory) (result, bool) { return made(delta.Encode(m.l)) },
		"error: encode, many":       func(m memory) (result, bool) { return made(delta.Encode(many(m))) },
		"error: encode, long":       func(m memory) (result, bool) { return made(delta.Encode(append(long(m), inserted(text(2000))))) },
		"error: decode":             func(m memory) (result, bool) { return parted(delta.Decode(m.again)) },
		"error: decode, cut off":    func(m memory) (result, bool) { return parted(delta.Decode(m.encoded()[:5])) },
	}
}

// mixed is a target of some copies and inserts.
func mixed(m memory) []byte {
	return []byte(string(m.bytes[3:9]) + "XYZ" + string(m.bytes[:5]) + "X" + string(m.bytes[6:12]) + "YY")
}

// many has more parts than a delta.
func many(m memory) parts { return slices.Repeat(m.delta(), 51) }

// long is a delta whose result has too many bytes.
func long(m memory) parts { return append(slices.Clone(m.delta()), inserted(text(1999))) }

// span is where a slice lies, with what is behind its length.
type span struct{ from, to uintptr }

// spans are those of all slices of a value.
func spans(v reflect.Value) []span {
	var l []span
	switch v.Kind() {
	case reflect.Struct:
		for i := range v.NumField() {
			l = append(l, spans(v.Field(i))...)
		}
	case reflect.Slice:
		if from, size := v.Pointer(), v.Type().Elem().Size(); v.Cap() > 0 {
			l = append(l, span{from, from + uintptr(v.Cap())*size})
		}
		for i := range v.Len() {
			l = append(l, spans(v.Index(i))...)
		}
	}
	return l
}

// overlap reports whether one of some slices lies where one of the others does.
func overlap(some, others []span) bool {
	for _, a := range some {
		for _, b := range others {
			if a.from < b.to && b.from < a.to {
				return true
			}
		}
	}
	return false
}

// R1, R2

func TestArgumentsStay(t *testing.T) {
	for what, call := range calls() {
		m := newMemory()
		got, failed := call(m)
		if failed != strings.HasPrefix(what, "error") {
			t.Error(what, failed)
		}
		if failed && (got.B != nil || got.L != nil || got.Cost != 0) {
			t.Error(what, brief(got))
		}
		if !reflect.DeepEqual(m, newMemory()) {
			t.Error(what, "an argument changed")
		}
	}
}

func TestResultsShareNoMemory(t *testing.T) {
	for what, call := range calls() {
		m := newMemory()
		first, _ := call(m)
		second, _ := call(m)
		if !first.equal(second) {
			t.Error(what, brief(first), brief(second))
		}
		l := spans(reflect.ValueOf(first))
		for i := range l {
			if overlap(l[i:i+1], l[i+1:]) {
				t.Error(what, "the parts of a result share memory")
			}
		}
		if overlap(l, spans(reflect.ValueOf(m))) {
			t.Error(what, "a result shares memory with an argument")
		}
		if overlap(l, spans(reflect.ValueOf(second))) {
			t.Error(what, "results share memory")
		}
	}
}

func TestResultsStayWhenArgumentsChange(t *testing.T) {
	for what, call := range calls() {
		m := newMemory()
		got, _ := call(m)
		kept, _ := call(newMemory())
		clear(m.bytes)
		clear(m.l)
		clear(m.again)
		if !got.equal(kept) {
			t.Error(what)
		}
	}
}

// What was called before, with or without an error, does not matter.
func TestNothingIsKept(t *testing.T) {
	for what, call := range calls() {
		want, _ := call(newMemory())
		for before, other := range calls() {
			other(newMemory())
			if got, _ := call(newMemory()); !got.equal(want) {
				t.Error(what, "behind", before)
			}
		}
	}
}

// The base and the target may be the same memory, or parts of it.
func TestArgumentsInTheSameMemory(t *testing.T) {
	b := []byte("abcdefabcdef")
	for from := range b {
		for to := from; to <= len(b); to++ {
			got, e := delta.Make(b, b[from:to])
			if !same(got, modelled(string(b), string(b[from:to]))) || e != api.OK {
				t.Error(from, to, brief(got), e)
			}
			got, e = delta.Make(b[from:to], b)
			if !same(got, modelled(string(b[from:to]), string(b))) || e != api.OK {
				t.Error(from, to, brief(got), e)
			}
		}
	}
	l := parts{{Data: b[3:5]}, {At: 1, N: 4}, {Data: b}}
	wantApply(t, "Data of the base", string(b), l, "debcde"+string(b), api.OK)
}

// Bytes behind the length of an argument do not matter.
func TestCapacities(t *testing.T) {
	b := []byte("abcdef")
	for n := range len(b) {
		if got, e := delta.Apply(b[:n], parts{copied(0, 6)}); got != nil || e != api.ErrRange {
			t.Error(n, string(got), e)
		}
		if got, e := delta.Make(b[:n], b[n:]); !same(got, parts{inserted(string(b[n:]))}) || e != api.OK {
			t.Error(n, brief(got), e)
		}
	}
	full := []byte(encoded(parts{inserted("ab"), copied(1, 2)}))
	for n := range full {
		if got, e := delta.Decode(full[:n]); got != nil || e != api.ErrForm {
			t.Error(n, brief(got), e)
		}
	}
}

// R3

func TestNilAndEmptyAreEqual(t *testing.T) {
	for _, l := range []parts{nil, {}, make(parts, 0, 5), make(parts, 5)[:0]} {
		wantDelta(t, "no parts", l)
		for _, base := range [][]byte{nil, {}, []byte("abc"), []byte("abc")[:0]} {
			if got, e := delta.Apply(base, l); len(got) > 0 || e != api.OK {
				t.Error(got, e)
			}
		}
	}
	for _, b := range [][]byte{nil, {}, []byte("abc")[:0]} {
		wantDelta(t, "a copy with no Data", parts{{At: 1, N: 2, Data: b}, inserted("a")})
		wantNone(t, "nothing", parts{{Data: b}}, api.ErrBad)
		wantNone(t, "an At", parts{{At: 1, Data: b}}, api.ErrBad)
		for _, c := range [][]byte{nil, {}, []byte("abc")[:0]} {
			if l, e := delta.Make(b, c); len(l) > 0 || e != api.OK {
				t.Error(l, e)
			}
		}
		if l, e := delta.Make(b, []byte("abc")); !same(l, parts{inserted("abc")}) || e != api.OK {
			t.Error(l, e)
		}
		if l, e := delta.Make([]byte("abc"), b); len(l) > 0 || e != api.OK {
			t.Error(l, e)
		}
		if l, e := delta.Decode(b); l != nil || e != api.ErrForm {
			t.Error(l, e)
		}
	}
}

// What does not belong to a part has its zero value: a copy has no Data, an insert neither At nor N.
func TestFieldsThatAreNotMentioned(t *testing.T) {
	base, target := []byte("abcdefgh"), []byte("abcdXYZefgh")
	made, _ := delta.Make(base, target)
	decoded, _ := delta.Decode([]byte(encoded(parts{copied(0, 4), inserted("XYZ"), copied(4, 4)})))
	for _, l := range []parts{made, decoded} {
		if want := (parts{copied(0, 4), inserted("XYZ"), copied(4, 4)}); !reflect.DeepEqual(l, want) {
			t.Error(brief(l))
		}
	}
}

// R7

func TestNoCallPanics(t *testing.T) {
	var rows []parts
	for _, some := range []map[string]api.DeltaPart{goodParts(), badParts()} {
		for _, p := range some {
			rows = append(rows, among(p)...)
		}
	}
	rows = append(rows, nil, make(parts, 1<<16), slices.Repeat(parts{copied(2000, 2000)}, 200), parts{inserted(strings.Repeat("a", 1<<20))})
	var all [][]byte
	for _, n := range []int{0, 1, 299, 300, 301, 1999, 2000, 2001, 1 << 20} {
		all = append(all, make([]byte, n), []byte(text(n)))
	}
	for _, l := range rows {
		for _, base := range bases {
			delta.Check(l, base)
		}
		for _, base := range all[:14] {
			delta.Apply(base, l)
		}
		delta.Cost(l)
		delta.Encode(l)
	}
	for _, base := range all {
		for _, target := range all {
			delta.Make(base, target)
		}
		delta.Decode(base)
	}
	for _, b := range badBytes() {
		for n := range min(len(b), 50) {
			delta.Decode([]byte(b[n:]))
		}
	}
}
