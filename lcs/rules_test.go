package lcs_test

import (
	"math"
	"reflect"
	"slices"
	"strings"
	"testing"

	"siding/api"
	"siding/lcs"
)

// memory is where arguments lie: each slice has others behind its length, and two lists lie in the same memory.
type memory struct {
	first, many, feed list
	pairs             pairs
}

// newMemory has lines with others behind them, and pairs with others behind them.
func newMemory() memory {
	return memory{
		first: letters("abcdbacab"),
		many:  joined(numbered(61), list{"behind"}),
		feed:  list{"a", "\n", "b"},
		pairs: joinedPairs(of(0, 1, 2, 2), of(-1, 99), row(61, 0, 0)),
	}
}

func joinedPairs(parts ...pairs) pairs { return slices.Concat(parts...) }

func (m memory) a() list { return m.first[:4] }

// b are lines behind those of a, in the same memory.
func (m memory) b() list { return m.first[4:7] }

// matching is one of a and b.
func (m memory) matching() pairs { return m.pairs[:2] }

// result is all that a call returns, but for an error.
type result struct {
	N int
	M pairs
}

func (r result) equal(other result) bool {
	return r.N == other.N && slices.Equal(r.M, other.M)
}

// calls are all functions, and whether they have an error.
func calls() map[string]func(m memory) (result, bool) {
	checked := func(e api.Errno) (result, bool) { return result{}, e != api.OK }
	counted := func(n int, e api.Errno) (result, bool) { return result{N: n}, e != api.OK }
	listed := func(m pairs, e api.Errno) (result, bool) { return result{M: m}, e != api.OK }
	return map[string]func(m memory) (result, bool){
		"length":                   func(m memory) (result, bool) { return counted(lcs.Length(m.a(), m.b())) },
		"length, the other way":    func(m memory) (result, bool) { return counted(lcs.Length(m.b(), m.a())) },
		"length, itself":           func(m memory) (result, bool) { return counted(lcs.Length(m.a(), m.a())) },
		"length, 60 lines":         func(m memory) (result, bool) { return counted(lcs.Length(m.many[:60], m.many[2:62])) },
		"length, nothing":          func(m memory) (result, bool) { return counted(lcs.Length(m.a(), m.many[:5])) },
		"best":                     func(m memory) (result, bool) { return listed(lcs.Best(m.a(), m.b())) },
		"best, the other way":      func(m memory) (result, bool) { return listed(lcs.Best(m.b(), m.a())) },
		"best, itself":             func(m memory) (result, bool) { return listed(lcs.Best(m.a(), m.a())) },
		"best, a part":             func(m memory) (result, bool) { return listed(lcs.Best(m.first, m.b())) },
		"best, overlapping":        func(m memory) (result, bool) { return listed(lcs.Best(m.first[:6], m.first[3:])) },
		"best, 60 lines":           func(m memory) (result, bool) { return listed(lcs.Best(m.many[:60], m.many[2:62])) },
		"best, 60 lines, itself":   func(m memory) (result, bool) { return listed(lcs.Best(m.many[:60], m.many[:60])) },
		"best, nothing":            func(m memory) (result, bool) { return listed(lcs.Best(m.a(), m.many[:5])) },
		"best, one line":           func(m memory) (result, bool) { return listed(lcs.Best(m.first[:1], m.first[:1])) },
		"check":                    func(m memory) (result, bool) { return checked(lcs.Check(m.a(), m.b(), m.matching())) },
		"check one pair":           func(m memory) (result, bool) { return checked(lcs.Check(m.a(), m.b(), m.pairs[:1])) },
		"check no pair":            func(m memory) (result, bool) { return checked(lcs.Check(m.a(), m.b(), m.pairs[:0])) },
		"check 60 pairs":           func(m memory) (result, bool) { return checked(lcs.Check(m.many[:60], m.many[:60], m.pairs[3:63])) },
		"distance":                 func(m memory) (result, bool) { return counted(lcs.Distance(m.a(), m.b())) },
		"distance, the other way":  func(m memory) (result, bool) { return counted(lcs.Distance(m.b(), m.a())) },
		"distance, itself":         func(m memory) (result, bool) { return counted(lcs.Distance(m.a(), m.a())) },
		"distance, a part":         func(m memory) (result, bool) { return counted(lcs.Distance(m.first, m.a())) },
		"distance, nothing":        func(m memory) (result, bool) { return counted(lcs.Distance(m.a(), m.many[:5])) },
		"error: length":            func(m memory) (result, bool) { return counted(lcs.Length(m.feed, m.a())) },
		"error: length, many":      func(m memory) (result, bool) { return counted(lcs.Length(m.a(), m.many[:61])) },
		"error: length, none":      func(m memory) (result, bool) { return counted(lcs.Length(m.a(), m.feed[:0])) },
		"error: best":              func(m memory) (result, bool) { return listed(lcs.Best(m.feed, m.a())) },
		"error: best, itself":      func(m memory) (result, bool) { return listed(lcs.Best(m.feed, m.feed)) },
		"error: best, many":        func(m memory) (result, bool) { return listed(lcs.Best(m.many[:60], m.many)) },
		"error: best, none":        func(m memory) (result, bool) { return listed(lcs.Best(m.a(), m.feed[:0])) },
		"error: check, a":          func(m memory) (result, bool) { return checked(lcs.Check(m.feed, m.b(), m.matching())) },
		"error: check, b":          func(m memory) (result, bool) { return checked(lcs.Check(m.a(), m.many, m.matching())) },
		"error: check, many pairs": func(m memory) (result, bool) { return checked(lcs.Check(m.a(), m.b(), m.pairs)) },
		"error: check, a pair":     func(m memory) (result, bool) { return checked(lcs.Check(m.a(), m.b(), m.pairs[:3])) },
		"error: check, an order":   func(m memory) (result, bool) { return checked(lcs.Check(m.a(), m.a(), m.pairs[3:8])) },
		"error: check, other line": func(m memory) (result, bool) { return checked(lcs.Check(m.b(), m.a(), m.pairs[3:4])) },
		"error: distance":          func(m memory) (result, bool) { return counted(lcs.Distance(m.feed, m.a())) },
		"error: distance, many":    func(m memory) (result, bool) { return counted(lcs.Distance(m.many, m.a())) },
		"error: distance, none":    func(m memory) (result, bool) { return counted(lcs.Distance(m.feed[:0], m.a())) },
	}
}

// span is where a slice lies, with what is behind its length.
type span struct{ from, to uintptr }

// spans are those of all slices of a value.
func spans(v reflect.Value) []span {
	var l []span
	switch v.Kind() {
	case reflect.Struct:
		for i := range v.NumField() {
			l = append(l, spans(v.Field(i))...)
		}
	case reflect.Slice:
		if from, size := v.Pointer(), v.Type().Elem().Size(); v.Cap() > 0 {
			l = append(l, span{from, from + uintptr(v.Cap())*size})
		}
		for i := range v.Len() {
			l = append(l, spans(v.Index(i))...)
		}
	}
	return l
}

// overlap reports whether one of some slices lies where one of the others does.
func overlap(some, others []span) bool {
	for _, a := range some {
		for _, b := range others {
			if a.from < b.to && b.from < a.to {
				return true
			}
		}
	}
	return false
}

// What the calls return, so that the tests below look at something.
func TestMemory(t *testing.T) {
	m := newMemory()
	wantAll(t, "memory", m.a(), m.b(), m.matching())
	wantAll(t, "memory", m.many[:60], m.many[2:62], row(58, 2, 0))
	wantAll(t, "memory", m.a(), m.a(), m.pairs[3:7])
}

// R1, R2

func TestArgumentsStay(t *testing.T) {
	for what, call := range calls() {
		m := newMemory()
		got, failed := call(m)
		if failed != strings.HasPrefix(what, "error") {
			t.Error(what, failed)
		}
		if failed && !got.equal(result{}) {
			t.Error(what, got)
		}
		if !reflect.DeepEqual(m, newMemory()) {
			t.Error(what, "an argument changed")
		}
	}
}

// Nothing is written behind a list or behind pairs, however many there are, and however much room is there.
func TestBehindTheArguments(t *testing.T) {
	for n := 1; n <= 60; n++ {
		room, more := same(130, "a"), row(130, 0, 0)
		for k := 1; k <= 60; k++ {
			wantAll(t, "room", room[:n], room[65:65+k], row(min(n, k), 0, 0))
			wantCheck(t, "room", room[:n], room[65:65+k], more[:min(n, k)], api.OK)
		}
		wantCheck(t, "room", room[:n], room[65:125], more[:n+1], []api.Errno{api.ErrBad, api.ErrMany}[n/60])
		if !slices.Equal(room, same(130, "a")) || !slices.Equal(more, row(130, 0, 0)) {
			t.Fatal(n, "an argument changed, or what is behind it")
		}
	}
}

func TestResultsShareNoMemory(t *testing.T) {
	for what, call := range calls() {
		m := newMemory()
		first, _ := call(m)
		second, _ := call(m)
		if !first.equal(second) {
			t.Error(what, first, second)
		}
		l := spans(reflect.ValueOf(first))
		if overlap(l, spans(reflect.ValueOf(m))) {
			t.Error(what, "a result shares memory with an argument")
		}
		if overlap(l, spans(reflect.ValueOf(second))) {
			t.Error(what, "results share memory")
		}
	}
}

func TestResultsStayWhenArgumentsChange(t *testing.T) {
	for what, call := range calls() {
		m := newMemory()
		got, _ := call(m)
		kept, _ := call(newMemory())
		clear(m.first)
		clear(m.many)
		clear(m.feed)
		clear(m.pairs)
		if !got.equal(kept) {
			t.Error(what)
		}
	}
}

// What was called before, with or without an error, does not matter.
func TestNothingIsKept(t *testing.T) {
	for what, call := range calls() {
		want, failed := call(newMemory())
		for before, other := range calls() {
			other(newMemory())
			if got, again := call(newMemory()); !got.equal(want) || again != failed {
				t.Error(what, "behind", before)
			}
		}
	}
}

// A result may be changed, and appended to, without any effect on another call.
func TestResultsAreTheCallers(t *testing.T) {
	for what, call := range calls() {
		m := newMemory()
		want, _ := call(m)
		got, _ := call(m)
		clear(got.M[:cap(got.M)])
		if again, _ := call(m); !again.equal(want) || !reflect.DeepEqual(m, newMemory()) {
			t.Error(what)
		}
	}
}

// R3

func TestNilAndEmptyAreEqual(t *testing.T) {
	for _, l := range []list{nil, {}, list{"a", "\n"}[:0], list{"a", "\n"}[2:]} {
		wantErrors(t, "no lines", l, list{"a"}, api.ErrBad)
		wantErrors(t, "no lines, second", list{"a"}, l, api.ErrBad)
		wantErrors(t, "no lines on both sides", l, l, api.ErrBad)
	}
	for _, m := range []pairs{nil, {}, of(0, 0)[:0], of(5, 5)[1:]} {
		wantCheck(t, "no pairs", list{"a"}, list{"a"}, m, api.OK)
		wantCheck(t, "no pairs", list{"a"}, list{"b"}, m, api.OK)
		wantCheck(t, "no pairs", same(60, ""), same(60, ""), m, api.OK)
		wantCheck(t, "no pairs, no lines", list{}, list{"a"}, m, api.ErrBad)
	}
}

// R7

func TestNoCallPanics(t *testing.T) {
	var all []list
	for _, l := range badLists() {
		all = append(all, l)
	}
	for _, l := range goodLists() {
		all = append(all, l)
	}
	var some []pairs
	for _, n := range append([]int{0, 1, 59}, extremes...) {
		some = append(some, of(n, n), of(n, 0), of(0, n), of(0, 0, n, n), of(n, n, math.MaxInt, math.MaxInt), of(math.MaxInt, n, math.MinInt, n))
	}
	for _, a := range all {
		for _, b := range all {
			bad := errorOf(a) != api.OK || errorOf(b) != api.OK
			n, e := lcs.Length(a, b)
			m, f := lcs.Best(a, b)
			d, g := lcs.Distance(a, b)
			if len(m) != n || e != f || e != g || bad != (e != api.OK) || bad && n+d != 0 {
				t.Error(brief(a), brief(b), n, e, m, f, d, g)
			}
			for _, m := range some {
				if e := lcs.Check(a, b, m); (e == api.OK) != (!bad && isMatching(a, b, m)) {
					t.Error(brief(a), brief(b), m, e)
				}
			}
		}
	}
}
