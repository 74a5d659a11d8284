package lines_test

import (
	"bytes"
	"math"
	"reflect"
	"slices"
	"strings"
	"testing"

	"siding/api"
	"siding/lines"
)

// memory is where arguments lie: each slice has others behind its length, and two lists lie in the same memory.
type memory struct {
	bytes      []byte
	first      list
	many, feed list
}

// newMemory has a text with bytes behind it, and lines with others behind them.
func newMemory() memory {
	return memory{
		bytes: []byte("a\n\nb\nx\ny\n"),
		first: list{"a", "b", "c", "d", "x", "y", "z"},
		many:  joined(numbered(61), list{"behind"}),
		feed:  list{"a", "\n", "b"},
	}
}

func (m memory) text() []byte { return m.bytes[:5] }

func (m memory) a() list { return m.first[:4] }

// by are lines behind those of a, in the same memory.
func (m memory) by() list { return m.first[4:6] }

// result is all that a call returns, but for an error.
type result struct {
	L           list
	B           []byte
	Front, Back int
}

func (r result) equal(other result) bool {
	return slices.Equal(r.L, other.L) && bytes.Equal(r.B, other.B) && r.Front == other.Front && r.Back == other.Back
}

// calls are all functions, and whether they have an error.
func calls() map[string]func(m memory) (result, bool) {
	checked := func(e api.Errno) (result, bool) { return result{}, e != api.OK }
	listed := func(l list, e api.Errno) (result, bool) { return result{L: l}, e != api.OK }
	made := func(b []byte, e api.Errno) (result, bool) { return result{B: b}, e != api.OK }
	counted := func(f, b int, e api.Errno) (result, bool) { return result{Front: f, Back: b}, e != api.OK }
	return map[string]func(m memory) (result, bool){
		"check":                      func(m memory) (result, bool) { return checked(lines.Check(m.text())) },
		"check nothing":              func(m memory) (result, bool) { return checked(lines.Check(m.bytes[:0])) },
		"split":                      func(m memory) (result, bool) { return listed(lines.Split(m.text())) },
		"split one line":             func(m memory) (result, bool) { return listed(lines.Split(m.bytes[:1])) },
		"split feeds":                func(m memory) (result, bool) { return listed(lines.Split(m.bytes[1:3])) },
		"split nothing":              func(m memory) (result, bool) { return listed(lines.Split(m.bytes[:0])) },
		"join":                       func(m memory) (result, bool) { return made(lines.Join(m.a())) },
		"join one line":              func(m memory) (result, bool) { return made(lines.Join(m.first[:1])) },
		"join 60 lines":              func(m memory) (result, bool) { return made(lines.Join(m.many[:60])) },
		"join a line before a feed":  func(m memory) (result, bool) { return made(lines.Join(m.feed[:1])) },
		"common":                     func(m memory) (result, bool) { return counted(lines.Common(m.a(), m.by())) },
		"common, itself":             func(m memory) (result, bool) { return counted(lines.Common(m.a(), m.a())) },
		"common, a part":             func(m memory) (result, bool) { return counted(lines.Common(m.a(), m.first[:2])) },
		"common, another part":       func(m memory) (result, bool) { return counted(lines.Common(m.a(), m.first[2:4])) },
		"common, behind it":          func(m memory) (result, bool) { return counted(lines.Common(m.first[1:4], m.first)) },
		"replace":                    func(m memory) (result, bool) { return listed(lines.Replace(m.a(), 1, 2, m.by())) },
		"replace nothing":            func(m memory) (result, bool) { return listed(lines.Replace(m.a(), 1, 1, m.first[:0])) },
		"replace nothing in front":   func(m memory) (result, bool) { return listed(lines.Replace(m.a(), 0, 0, nil)) },
		"replace nothing behind":     func(m memory) (result, bool) { return listed(lines.Replace(m.a(), 4, 4, nil)) },
		"replace all":                func(m memory) (result, bool) { return listed(lines.Replace(m.a(), 0, 4, m.by())) },
		"replace all by itself":      func(m memory) (result, bool) { return listed(lines.Replace(m.a(), 0, 4, m.a())) },
		"replace by itself":          func(m memory) (result, bool) { return listed(lines.Replace(m.a(), 1, 2, m.first[1:2])) },
		"replace by the whole":       func(m memory) (result, bool) { return listed(lines.Replace(m.a(), 1, 2, m.a())) },
		"replace by what is before":  func(m memory) (result, bool) { return listed(lines.Replace(m.a(), 2, 4, m.first[:2])) },
		"replace by what is behind":  func(m memory) (result, bool) { return listed(lines.Replace(m.a(), 0, 2, m.first[2:6])) },
		"put in front":               func(m memory) (result, bool) { return listed(lines.Replace(m.a(), 0, 0, m.by())) },
		"put behind":                 func(m memory) (result, bool) { return listed(lines.Replace(m.a(), 4, 4, m.by())) },
		"put behind what is there":   func(m memory) (result, bool) { return listed(lines.Replace(m.a(), 4, 4, m.first[5:6])) },
		"leave the front":            func(m memory) (result, bool) { return listed(lines.Replace(m.a(), 1, 4, m.first[:0])) },
		"leave the back":             func(m memory) (result, bool) { return listed(lines.Replace(m.a(), 0, 3, nil)) },
		"error: check":               func(m memory) (result, bool) { return checked(lines.Check(bytes.Repeat(m.bytes[1:2], 60))) },
		"error: split":               func(m memory) (result, bool) { return listed(lines.Split(bytes.Repeat(m.bytes[1:2], 60))) },
		"error: split, bytes":        func(m memory) (result, bool) { return listed(lines.Split(bytes.Repeat(m.bytes[:1], 2001))) },
		"error: join":                func(m memory) (result, bool) { return made(lines.Join(m.feed)) },
		"error: join, many":          func(m memory) (result, bool) { return made(lines.Join(m.many[:61])) },
		"error: join, none":          func(m memory) (result, bool) { return made(lines.Join(m.feed[:0])) },
		"error: common":              func(m memory) (result, bool) { return counted(lines.Common(m.feed, m.a())) },
		"error: common, second":      func(m memory) (result, bool) { return counted(lines.Common(m.many[:60], m.many)) },
		"error: common, itself":      func(m memory) (result, bool) { return counted(lines.Common(m.feed, m.feed)) },
		"error: common, none":        func(m memory) (result, bool) { return counted(lines.Common(m.a(), m.first[:0])) },
		"error: replace, l":          func(m memory) (result, bool) { return listed(lines.Replace(m.feed, 1, 2, m.by())) },
		"error: replace, from":       func(m memory) (result, bool) { return listed(lines.Replace(m.a(), -1, 2, m.by())) },
		"error: replace, past":       func(m memory) (result, bool) { return listed(lines.Replace(m.a(), 1, 5, m.by())) },
		"error: replace, order":      func(m memory) (result, bool) { return listed(lines.Replace(m.a(), 2, 1, m.by())) },
		"error: replace, a feed":     func(m memory) (result, bool) { return listed(lines.Replace(m.a(), 1, 2, m.feed)) },
		"error: replace, many":       func(m memory) (result, bool) { return listed(lines.Replace(m.a(), 1, 2, m.many[:58])) },
		"error: replace, none":       func(m memory) (result, bool) { return listed(lines.Replace(m.a(), 0, 4, m.first[:0])) },
		"error: replace, many lines": func(m memory) (result, bool) { return listed(lines.Replace(m.many[:60], 7, 7, m.by())) },
	}
}

// span is where a slice lies, with what is behind its length.
type span struct{ from, to uintptr }

// spans are those of all slices of a value.
func spans(v reflect.Value) []span {
	var l []span
	switch v.Kind() {
	case reflect.Struct:
		for i := range v.NumField() {
			l = append(l, spans(v.Field(i))...)
		}
	case reflect.Slice:
		if from, size := v.Pointer(), v.Type().Elem().Size(); v.Cap() > 0 {
			l = append(l, span{from, from + uintptr(v.Cap())*size})
		}
		for i := range v.Len() {
			l = append(l, spans(v.Index(i))...)
		}
	}
	return l
}

// overlap reports whether one of some slices lies where one of the others does.
func overlap(some, others []span) bool {
	for _, a := range some {
		for _, b := range others {
			if a.from < b.to && b.from < a.to {
				return true
			}
		}
	}
	return false
}

// What the calls return, so that the tests below look at something.
func TestMemory(t *testing.T) {
	m := newMemory()
	wantText(t, "memory", string(m.text()), list{"a", "", "b", ""})
	wantJoin(t, "memory", m.a(), "a\nb\nc\nd", api.OK)
	wantReplace(t, "memory", m.a(), 1, 2, m.by(), list{"a", "x", "y", "c", "d"}, api.OK)
	wantReplace(t, "memory", m.a(), 4, 4, m.by(), list{"a", "b", "c", "d", "x", "y"}, api.OK)
}

// R1, R2

func TestArgumentsStay(t *testing.T) {
	for what, call := range calls() {
		m := newMemory()
		got, failed := call(m)
		if failed != strings.HasPrefix(what, "error") {
			t.Error(what, failed)
		}
		if failed && !got.equal(result{}) {
			t.Error(what, brief(got))
		}
		if !reflect.DeepEqual(m, newMemory()) {
			t.Error(what, "an argument changed")
		}
	}
}

// Nothing is written behind a list, however many lines are put there, and however much room is there.
func TestBehindTheList(t *testing.T) {
	for n := 1; n <= 60; n++ {
		room := numbered(130)
		for k := range 61 - n {
			wantReplaced(t, "room", room[:n], n, n, same(k, "x"))
			wantReplaced(t, "room", room[:n], n-1, n, same(k, "x"))
			wantReplaced(t, "room", room[:n], 0, 0, room[70:70+k])
			wantReplaced(t, "room", room[:n], 0, n, room[70:70+k])
		}
		if !slices.Equal(room, numbered(130)) {
			t.Fatal(n, "the list changed, or what is behind it")
		}
	}
}

func TestResultsShareNoMemory(t *testing.T) {
	for what, call := range calls() {
		m := newMemory()
		first, _ := call(m)
		second, _ := call(m)
		if !first.equal(second) {
			t.Error(what, brief(first), brief(second))
		}
		l := spans(reflect.ValueOf(first))
		for i := range l {
			if overlap(l[i:i+1], l[i+1:]) {
				t.Error(what, "the parts of a result share memory")
			}
		}
		if overlap(l, spans(reflect.ValueOf(m))) {
			t.Error(what, "a result shares memory with an argument")
		}
		if overlap(l, spans(reflect.ValueOf(second))) {
			t.Error(what, "results share memory")
		}
	}
}

func TestResultsStayWhenArgumentsChange(t *testing.T) {
	for what, call := range calls() {
		m := newMemory()
		got, _ := call(m)
		kept, _ := call(newMemory())
		clear(m.bytes)
		clear(m.first)
		clear(m.many)
		clear(m.feed)
		if !got.equal(kept) {
			t.Error(what)
		}
	}
}

// The lines of a text stay as they are, whatever becomes of its bytes.
func TestBytesMayBeWrittenOver(t *testing.T) {
	for _, want := range goodLists() {
		b := []byte(textOf(want))
		l, e := lines.Split(b)
		for i := range b {
			b[i] = '!'
		}
		if !slices.Equal(l, want) || e != api.OK {
			t.Error(brief(l), e, brief(want))
		}
	}
}

// What was called before, with or without an error, does not matter.
func TestNothingIsKept(t *testing.T) {
	for what, call := range calls() {
		want, _ := call(newMemory())
		for before, other := range calls() {
			other(newMemory())
			if got, _ := call(newMemory()); !got.equal(want) {
				t.Error(what, "behind", before)
			}
		}
	}
}

// A result may be changed, and appended to, without any effect on another call.
func TestResultsAreTheCallers(t *testing.T) {
	for what, call := range calls() {
		m := newMemory()
		want, _ := call(m)
		got, _ := call(m)
		clear(got.L[:cap(got.L)])
		clear(got.B[:cap(got.B)])
		if again, _ := call(m); !again.equal(want) || !reflect.DeepEqual(m, newMemory()) {
			t.Error(what)
		}
	}
}

// R3

func TestNilAndEmptyAreEqual(t *testing.T) {
	for _, b := range [][]byte{nil, {}, []byte("a\n")[:0], []byte("a\n")[2:]} {
		wantText(t, "no bytes", string(b), list{""})
		if l, e := lines.Split(b); !slices.Equal(l, list{""}) || e != api.OK || lines.Check(b) != api.OK {
			t.Error("no bytes:", brief(l), e)
		}
	}
	for _, l := range []list{nil, {}, list{"a", "\n"}[:0], list{"a", "\n"}[2:]} {
		wantJoin(t, "no lines", l, "", api.ErrBad)
		wantCommon(t, "no lines", l, list{"a"}, 0, 0, api.ErrBad)
		wantCommon(t, "no lines", list{"a"}, l, 0, 0, api.ErrBad)
		wantReplace(t, "no lines", l, 0, 0, list{"a"}, nil, api.ErrBad)
		wantReplace(t, "no others", list{"a"}, 0, 0, l, list{"a"}, api.OK)
		wantReplace(t, "no others", list{"a", "b"}, 1, 2, l, list{"a"}, api.OK)
		wantReplace(t, "no others, and nothing is left", list{"a"}, 0, 1, l, nil, api.ErrBad)
	}
}

// R7

func TestNoCallPanics(t *testing.T) {
	var all []list
	for _, l := range badLists() {
		all = append(all, l)
	}
	for _, l := range goodLists() {
		all = append(all, l)
	}
	ends := append([]int{0, 1, 2, 59, 60}, extremes...)
	for _, l := range all {
		b := []byte(textOf(l))
		split, e := lines.Split(b)
		if e != lines.Check(b) || (e == api.OK) != (len(split) > 0) {
			t.Error(brief(b), brief(split), e)
		}
		for _, other := range all {
			lines.Common(l, other)
		}
		for _, from := range ends {
			for _, to := range ends {
				if got, e := lines.Replace(l, from, to, list{"x"}); (e == api.OK) != (len(got) > 0) {
					t.Error(brief(l), from, to, brief(got), e)
				}
			}
		}
	}
	wantReplaced(t, "all", numbered(2), math.MinInt, math.MaxInt, nil)
}
