package object_test

import (
	"bytes"
	"math"
	"reflect"
	"slices"
	"strings"
	"testing"

	"siding/api"
	"siding/object"
)

// memory is where arguments lie: each slice has others behind its length.
type memory struct {
	bytes   []byte
	entries []api.Entry
	parents []api.ID
	files   []api.File
	blobs   []api.Object
}

func newMemory() memory {
	all := []byte("xxyy----" + encoded(blob("text")) + "----")
	return memory{
		bytes:   all,
		entries: []api.Entry{{Path: "a", Blob: nameOf("xx")}, {Path: "b", Blob: nameOf("yy")}, {Path: "c", Blob: nameOf("xx")}, {Path: "", Blob: id(1)}},
		parents: []api.ID{id(1), id(2), id(2)},
		files:   []api.File{{Path: "a", Text: all[:2]}, {Path: "b", Text: all[2:4]}, {Path: "c", Text: all[:2]}, {Path: "", Text: all[4:6]}},
		blobs:   []api.Object{{Kind: 1, Text: all[2:4]}, {Kind: 1, Text: all[:2]}, {Kind: 1, Text: all[:2]}, {Kind: 9, Text: all[4:6]}},
	}
}

func (m memory) tree() api.Object { return tree(m.entries[:3]...) }

func (m memory) commit() api.Commit {
	return api.Commit{Tree: id(3), Parents: m.parents[:2], Note: "note", Tick: 5}
}

// result is all that a call returns, but for an error.
type result struct {
	O     api.Object
	B     []byte
	ID    api.ID
	List  []api.Object
	Files []api.File
}

func (r result) equal(other result) bool {
	return same(r.O, other.O) && bytes.Equal(r.B, other.B) && r.ID == other.ID && slices.EqualFunc(r.List, other.List, same) && slices.EqualFunc(r.Files, other.Files, sameFile)
}

// calls are all functions, and whether they have an error.
func calls() map[string]func(m memory) (result, bool) {
	check := func(e api.Errno) (result, bool) { return result{}, e != api.OK }
	encode := func(b []byte, e api.Errno) (result, bool) { return result{B: b}, e != api.OK }
	decode := func(o api.Object, e api.Errno) (result, bool) { return result{O: o}, e != api.OK }
	name := func(d api.ID, e api.Errno) (result, bool) { return result{ID: d}, e != api.OK }
	made := func(d api.ID, l []api.Object, e api.Errno) (result, bool) {
		return result{ID: d, List: l}, e != api.OK
	}
	files := func(l []api.File, e api.Errno) (result, bool) { return result{Files: l}, e != api.OK }
	return map[string]func(m memory) (result, bool){
		"check a blob":             func(m memory) (result, bool) { return check(object.Check(m.blobs[0])) },
		"check a tree":             func(m memory) (result, bool) { return check(object.Check(m.tree())) },
		"check a commit":           func(m memory) (result, bool) { return check(object.Check(commit(m.commit()))) },
		"encode a blob":            func(m memory) (result, bool) { return encode(object.Encode(m.blobs[0])) },
		"encode a tree":            func(m memory) (result, bool) { return encode(object.Encode(m.tree())) },
		"encode a commit":          func(m memory) (result, bool) { return encode(object.Encode(commit(m.commit()))) },
		"decode a blob":            func(m memory) (result, bool) { return decode(object.Decode(m.bytes[8 : len(m.bytes)-4])) },
		"decode an empty blob":     func(m memory) (result, bool) { return decode(object.Decode([]byte("\x03\x02\x01\x02\x02\x00"))) },
		"decode a tree":            func(m memory) (result, bool) { return decode(object.Decode([]byte(encoded(m.tree())))) },
		"decode a commit":          func(m memory) (result, bool) { return decode(object.Decode([]byte(encoded(commit(m.commit()))))) },
		"name a blob":              func(m memory) (result, bool) { return name(object.Name(m.blobs[0])) },
		"name a tree":              func(m memory) (result, bool) { return name(object.Name(m.tree())) },
		"name a commit":            func(m memory) (result, bool) { return name(object.Name(commit(m.commit()))) },
		"blob":                     func(m memory) (result, bool) { return name(object.Blob(m.bytes[1:3])) },
		"commit":                   func(m memory) (result, bool) { return name(object.Commit(m.commit())) },
		"tree":                     func(m memory) (result, bool) { return made(object.Tree(m.files[:3])) },
		"tree of no files":         func(m memory) (result, bool) { return made(object.Tree(m.files[:0])) },
		"tree of two files":        func(m memory) (result, bool) { return made(object.Tree(m.files[1:3])) },
		"files":                    func(m memory) (result, bool) { return files(object.Files(m.tree(), m.blobs[:3])) },
		"files of no tree":         func(m memory) (result, bool) { return files(object.Files(tree(m.entries[:0]...), m.blobs[:3])) },
		"files with equal texts":   func(m memory) (result, bool) { return files(object.Files(m.tree(), m.blobs[:2])) },
		"error: check":             func(m memory) (result, bool) { return check(object.Check(tree(m.entries...))) },
		"error: encode":            func(m memory) (result, bool) { return encode(object.Encode(tree(m.entries...))) },
		"error: name":              func(m memory) (result, bool) { return name(object.Name(m.blobs[3])) },
		"error: decode":            func(m memory) (result, bool) { return decode(object.Decode(m.bytes[8:])) },
		"error: decode a part":     func(m memory) (result, bool) { return decode(object.Decode(m.bytes[8 : len(m.bytes)-5])) },
		"error: decode no object":  func(m memory) (result, bool) { return decode(object.Decode([]byte(list(list(data("a"), data("b")))))) },
		"error: decode equal":      func(m memory) (result, bool) { return decode(object.Decode([]byte(encoded(tree(m.entries...))))) },
		"error: blob":              func(m memory) (result, bool) { return name(object.Blob(append(m.bytes[:4:4], text(2000)...))) },
		"error: commit":            func(m memory) (result, bool) { return name(object.Commit(api.Commit{Parents: m.parents})) },
		"error: tree":              func(m memory) (result, bool) { return made(object.Tree(m.files)) },
		"error: tree out of order": func(m memory) (result, bool) { return made(object.Tree([]api.File{m.files[1], m.files[0]})) },
		"error: too many files":    func(m memory) (result, bool) { return made(object.Tree(slices.Repeat(m.files[:1], 13))) },
		"error: files":             func(m memory) (result, bool) { return files(object.Files(m.tree(), m.blobs)) },
		"error: no tree":           func(m memory) (result, bool) { return files(object.Files(tree(m.entries...), m.blobs[:3])) },
		"error: a missing blob":    func(m memory) (result, bool) { return files(object.Files(m.tree(), m.blobs[1:3])) },
		"error: too many blobs":    func(m memory) (result, bool) { return files(object.Files(m.tree(), slices.Repeat(m.blobs[:3], 67))) },
	}
}

// span is where a slice lies, with what is behind its length.
type span struct{ from, to uintptr }

// spans are those of all slices of a value.
func spans(v reflect.Value) []span {
	var l []span
	switch v.Kind() {
	case reflect.Struct:
		for i := range v.NumField() {
			l = append(l, spans(v.Field(i))...)
		}
	case reflect.Slice:
		if from, size := v.Pointer(), v.Type().Elem().Size(); v.Cap() > 0 {
			l = append(l, span{from, from + uintptr(v.Cap())*size})
		}
		for i := range v.Len() {
			l = append(l, spans(v.Index(i))...)
		}
	}
	return l
}

// overlap reports whether one of some slices lies where one of the others does.
func overlap(some, others []span) bool {
	for _, a := range some {
		for _, b := range others {
			if a.from < b.to && b.from < a.to {
				return true
			}
		}
	}
	return false
}

// R1, R2

func TestArgumentsStay(t *testing.T) {
	for what, call := range calls() {
		m := newMemory()
		got, failed := call(m)
		if failed != strings.HasPrefix(what, "error") {
			t.Error(what, failed)
		}
		if failed && !got.equal(result{}) {
			t.Error(what, brief(got))
		}
		if !reflect.DeepEqual(m, newMemory()) {
			t.Error(what, "an argument changed")
		}
	}
}

func TestResultsShareNoMemory(t *testing.T) {
	for what, call := range calls() {
		m := newMemory()
		first, _ := call(m)
		second, _ := call(m)
		if !first.equal(second) {
			t.Error(what, brief(first), brief(second))
		}
		l := spans(reflect.ValueOf(first))
		for i := range l {
			if overlap(l[i:i+1], l[i+1:]) {
				t.Error(what, "the parts of a result share memory")
			}
		}
		if overlap(l, spans(reflect.ValueOf(m))) {
			t.Error(what, "a result shares memory with an argument")
		}
		if overlap(l, spans(reflect.ValueOf(second))) {
			t.Error(what, "results share memory")
		}
	}
}

// Equal texts and names lie apart in a result, however they lie in an argument.
func TestEqualPartsLieApart(t *testing.T) {
	m := newMemory()
	got, _ := object.Files(m.tree(), m.blobs[:3])
	got[0].Text[0] = 'z'
	if string(got[2].Text) != "xx" || string(m.bytes[:2]) != "xx" {
		t.Error(brief(got))
	}
	_, l, _ := object.Tree(m.files[:3])
	for _, o := range l[1:] {
		o.Text[0] = 'z'
	}
	l[0].Tree[0].Blob[0]++
	if l[0].Tree[0].Blob == l[0].Tree[2].Blob || !reflect.DeepEqual(m, newMemory()) {
		t.Error(brief(l))
	}
}

func TestResultsStayWhenArgumentsChange(t *testing.T) {
	for _, o := range someObjects() {
		b := []byte(encoded(o))
		got, e := object.Decode(b)
		clear(b)
		if !same(got, o) || e != api.OK {
			t.Error(brief(got), e)
		}
	}
	for what, call := range calls() {
		m := newMemory()
		got, _ := call(m)
		kept, _ := call(newMemory())
		clear(m.bytes)
		clear(m.entries)
		clear(m.parents)
		clear(m.files)
		clear(m.blobs)
		if !got.equal(kept) {
			t.Error(what)
		}
	}
}

// What was called before, with or without an error, does not matter.
func TestNothingIsKept(t *testing.T) {
	for what, call := range calls() {
		want, _ := call(newMemory())
		for before, other := range calls() {
			other(newMemory())
			if got, _ := call(newMemory()); !got.equal(want) {
				t.Error(what, "behind", before)
			}
		}
	}
}

// R3

func TestNilAndEmptyAreEqual(t *testing.T) {
	for kind := range uint8(5) {
		bare := api.Object{Kind: kind}
		for _, o := range []api.Object{
			{Kind: kind, Text: []byte{}, Tree: []api.Entry{}, Commit: api.Commit{Parents: []api.ID{}}},
			{Kind: kind, Text: []byte("a")[:0], Tree: entries("a")[:0], Commit: api.Commit{Parents: []api.ID{{}, {}, {}}[:0]}},
		} {
			if kind >= 1 && kind <= 3 {
				wantObject(t, "empty", o, encoded(bare))
			} else {
				wantBad(t, "empty", o)
			}
		}
	}
	wantTree(t, "nil", []api.File{{Path: "a"}})
	wantTree(t, "empty", []api.File{{Path: "a", Text: []byte{}}})
	top, l := linked("")
	wantFiles(t, "nil", top, []api.Object{{Kind: 1}}, l, api.OK)
	wantFiles(t, "empty", top, []api.Object{{Kind: 1, Text: []byte{}, Tree: []api.Entry{}}}, l, api.OK)
	wantForm(t, "nil", "")
	if o, e := object.Decode(nil); !same(o, api.Object{}) || e != api.ErrForm {
		t.Error(brief(o), e)
	}
}

// R7

func TestNoCallPanics(t *testing.T) {
	var all []api.Object
	for _, some := range []map[string]api.Object{badBlobs(), badTrees()} {
		for _, o := range some {
			all = append(all, o)
		}
	}
	for _, c := range commits() {
		all = append(all, commit(c.c))
	}
	all = append(all, someObjects()...)
	all = append(all, blob(text(1<<20)), tree(make([]api.Entry, 1<<16)...), commit(api.Commit{Parents: make([]api.ID, 1<<16), Note: text(1 << 20), Tick: math.MinInt}))
	for kind := range 256 {
		for _, o := range all {
			o.Kind = uint8(kind)
			object.Check(o)
			object.Encode(o)
			object.Name(o)
			object.Files(o, nil)
			object.Files(tree(), []api.Object{o})
		}
	}
	for _, o := range all {
		object.Blob(o.Text)
		object.Commit(o.Commit)
		object.Files(o, all)
		for _, other := range all {
			object.Files(o, []api.Object{other, o})
		}
		object.Tree([]api.File{{Path: o.Commit.Note, Text: o.Text}, {Path: string(o.Text), Text: o.Text}})
	}
	for _, b := range badBytes() {
		for n := range min(len(b), 50) {
			object.Decode([]byte(b[n:]))
			object.Decode([]byte(b[:n]))
		}
	}
}
