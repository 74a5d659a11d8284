package object_test

import (
	"math"
	"math/rand/v2"
	"slices"
	"strings"
	"testing"

	"siding/api"
)

// P9.1

// badBytes are bytes of no object.
func badBytes() map[string]string {
	x, y, z := name(id(1)), name(id(2)), name(id(3))
	entry := func(path string) string { return list(data(path), x) }
	ofTree := func(entries ...string) string { return list(number(2), list(entries...)) }
	ofCommit := func(tree, parents, note, tick string) string { return list(number(3), tree, parents, note, tick) }
	all := map[string]string{
		"a zero":                            "\x00",
		"a list that is cut off":            "\x03",
		"no value":                          "\x07\x07",
		"a number":                          number(1),
		"bytes":                             data("a"),
		"bytes of an object":                data(encoded(blob("a"))),
		"no elements":                       list(),
		"an object in a list":               list(encoded(blob("a"))),
		"two objects":                       encoded(blob("a")) + encoded(blob("a")),
		"too many bytes":                    list(number(1), data(text(2992))),
		"too deep":                          list(number(2), list(list(list(list(list(list())))))),
		"a blob and a text":                 list(number(1), data("a"), data("a")),
		"a blob and a list":                 list(number(1), data("a"), list()),
		"a blob and a number":               list(number(1), data("a"), number(0)),
		"a blob and a commit":               list(number(1), x, list(), data(""), number(0)),
		"a blob without a text":             list(number(1)),
		"a blob of a number":                list(number(1), number(0)),
		"a blob of a list":                  list(number(1), list()),
		"a blob of a text in a list":        list(number(1), list(data("a"))),
		"a text before its kind":            list(data("a"), number(1)),
		"a text without a kind":             list(data("a")),
		"two texts":                         list(data("a"), data("a")),
		"a kind that is bytes":              list(data("\x01"), data("a")),
		"a kind that is no bytes":           list(data(""), data("a")),
		"a kind that is a list":             list(list(number(1)), data("a")),
		"a kind that is an empty list":      list(list(), list()),
		"a kind of bytes, of a tree":        list(data("\x02"), list()),
		"a blob of too many bytes":          list(number(1), data(text(2001))),
		"a blob of too many lines":          list(number(1), data(feeds(60, 60))),
		"a tree without a list":             list(number(2)),
		"a tree of a text":                  list(number(2), data("")),
		"a tree of a number":                list(number(2), number(0)),
		"a tree and an entry":               list(number(2), list(), entry("a")),
		"a tree and bytes":                  list(number(2), list(), data("")),
		"a tree and a commit":               list(number(2), list(), list(), data(""), number(0)),
		"an entry in the place of the list": list(number(2), entry("a")),
		"entries that lie behind the kind":  list(number(2), entry("a"), entry("b")),
		"an empty entry":                    ofTree(list()),
		"an entry without a path":           ofTree(list(x)),
		"an entry without a name":           ofTree(list(data("a"))),
		"an entry that is bytes":            ofTree(data("a")),
		"an entry that is a number":         ofTree(number(0)),
		"an entry that is no list":          ofTree(data("a"), x),
		"a name before the path":            ofTree(list(x, data("a"))),
		"an entry with two names":           ofTree(list(data("a"), x, x)),
		"an entry with a number":            ofTree(list(data("a"), x, number(0))),
		"an entry with an empty list":       ofTree(list(data("a"), x, list())),
		"a path that is a number":           ofTree(list(number(0), x)),
		"a path that is a list":             ofTree(list(list(data("a")), x)),
		"a path that is empty":              ofTree(entry("")),
		"a path that is none":               ofTree(entry("a//b")),
		"a path that is too long":           ofTree(entry(strings.Repeat("a", 61))),
		"a name that is a number":           ofTree(list(data("a"), number(0))),
		"a name that is a list":             ofTree(list(data("a"), list())),
		"a name in a list":                  ofTree(list(data("a"), list(x))),
		"a name that is empty":              ofTree(list(data("a"), data(""))),
		"a name of 31 bytes":                ofTree(list(data("a"), data(text(31)))),
		"a name of 31 zeros":                ofTree(list(data("a"), data(strings.Repeat("\x00", 31)))),
		"a name of 33 bytes":                ofTree(list(data("a"), data(text(33)))),
		"a name of 64 bytes":                ofTree(list(data("a"), data(text(64)))),
		"a last entry without a name":       ofTree(entry("a"), list(data("b"))),
		"a first entry without a name":      ofTree(list(data("a")), entry("b")),
		"entries out of order":              ofTree(entry("b"), entry("a")),
		"the same entry twice":              ofTree(entry("a"), entry("a")),
		"a commit without anything":         list(number(3)),
		"a commit with a text":              list(number(3), data("a")),
		"a commit with a list":              list(number(3), list()),
		"a commit without a tick":           list(number(3), x, list(), data("")),
		"a commit without a note":           list(number(3), x, list(), number(0)),
		"a commit without parents":          list(number(3), x, data(""), number(0)),
		"a commit without a tree":           list(number(3), list(), data(""), number(0)),
		"a commit with another number":      list(number(3), x, list(), data(""), number(0), number(0)),
		"a commit with other bytes":         list(number(3), x, list(), data(""), number(0), data("")),
		"a commit with another list":        list(number(3), x, list(), data(""), number(0), list()),
		"a tree and parents exchanged":      list(number(3), list(), x, data(""), number(0)),
		"a note and a tick exchanged":       list(number(3), x, list(), number(0), data("")),
		"parents and a note exchanged":      list(number(3), x, data(""), list(), number(0)),
		"a commit whose tree is a number":   ofCommit(number(0), list(), data(""), number(0)),
		"a commit whose tree is a list":     ofCommit(list(x), list(), data(""), number(0)),
		"a commit whose tree is empty":      ofCommit(data(""), list(), data(""), number(0)),
		"a commit whose tree has 31 bytes":  ofCommit(data(text(31)), list(), data(""), number(0)),
		"a commit whose tree has 31 zeros":  ofCommit(data(strings.Repeat("\x00", 31)), list(), data(""), number(0)),
		"a commit whose tree has 33 bytes":  ofCommit(data(text(33)), list(), data(""), number(0)),
		"parents that are bytes":            ofCommit(x, y, data(""), number(0)),
		"parents that are no bytes":         ofCommit(x, data(""), data(""), number(0)),
		"parents that are a number":         ofCommit(x, number(0), data(""), number(0)),
		"a parent that is a number":         ofCommit(x, list(number(0)), data(""), number(0)),
		"a parent that is a list":           ofCommit(x, list(list(y)), data(""), number(0)),
		"a parent that is empty":            ofCommit(x, list(data("")), data(""), number(0)),
		"a parent of 31 bytes":              ofCommit(x, list(data(text(31))), data(""), number(0)),
		"a parent of 33 bytes":              ofCommit(x, list(data(text(33))), data(""), number(0)),
		"a second parent of 31 bytes":       ofCommit(x, list(y, data(text(31))), data(""), number(0)),
		"a second parent of 33 bytes":       ofCommit(x, list(y, data(text(33))), data(""), number(0)),
		"equal parents":                     ofCommit(x, list(y, y), data(""), number(0)),
		"three parents":                     ofCommit(x, list(x, y, z), data(""), number(0)),
		"a note that is a number":           ofCommit(x, list(), number(0), number(0)),
		"a note that is a list":             ofCommit(x, list(), list(), number(0)),
		"a note in a list":                  ofCommit(x, list(), list(data("a")), number(0)),
		"a note of 201 bytes":               ofCommit(x, list(), data(text(201)), number(0)),
		"a tick that is bytes":              ofCommit(x, list(), data(""), data("")),
		"a tick that is a list":             ofCommit(x, list(), data(""), list()),
		"a tick in a list":                  ofCommit(x, list(), data(""), list(number(0))),
		"a count in two bytes":              "\x03\x82\x00\x01\x02\x02\x01a",
		"a kind in two bytes":               "\x03\x02\x01\x82\x00\x02\x01a",
		"a length in two bytes":             "\x03\x02\x01\x02\x02\x81\x00a",
		"no entries, in two bytes":          "\x03\x02\x01\x04\x03\x80\x00",
		"a tick in two bytes":               list(number(3), x, list(), data(""), "\x01\x80\x00"),
	}
	// Numbers of other kinds, and those whose lowest bits are a kind.
	for _, n := range []int64{0, -1, -2, -3, 4, 5, 127, 128, 129, 255, 256, 257, 258, 259, -255, -254, -253, 1<<16 + 1, 1<<32 + 1, 1<<32 + 2, 1<<32 + 3, 1<<62 + 1, math.MinInt64, math.MinInt64 + 1, math.MinInt64 + 2, math.MinInt64 + 3, math.MaxInt64} {
		all["the kind "+number(n)+" with a text"] = list(number(n), data("a"))
		all["the kind "+number(n)+" with entries"] = list(number(n), list(entry("a")))
		all["the kind "+number(n)+" with a commit"] = list(number(n), x, list(), data(""), number(0))
		all["the kind "+number(n)+" with nothing"] = list(number(n))
	}
	for _, n := range extremes {
		all["the tick "+number(int64(n))] = ofCommit(x, list(y), data("a"), number(int64(n)))
	}
	for n := 13; n < 80; n += 3 {
		var l []string
		for _, p := range paths(0, n) {
			l = append(l, entry(p))
		}
		all["too many entries"+number(int64(n))] = ofTree(l...)
	}
	return all
}

func TestBytesOfNoObject(t *testing.T) {
	for what, b := range badBytes() {
		wantForm(t, what, b)
		wantForm(t, what+", and an object behind", b+encoded(blob("a")))
		wantForm(t, what+", and a zero behind", b+"\x00")
	}
	wantForm(t, "nothing", "")
	wantForm(t, "many bytes", strings.Repeat("\x03\x02\x01\x02\x02\x01a", 100000))
}

// The contents of each kind with the numbers of the others.
func TestKindsExchanged(t *testing.T) {
	x := name(id(1))
	for kind := range int64(6) {
		for own, rest := range [][]string{{}, {data("a")}, {list(list(data("a"), x))}, {x, list(x), data("a"), number(1)}, {list()}, {data("")}} {
			b := list(append([]string{number(kind)}, rest...)...)
			if own == int(kind) && kind >= 1 && kind <= 3 || own == 4 && kind == 2 || own == 5 && kind == 1 {
				if _, ok := parsed(b); !ok {
					t.Error(kind, own)
				}
				wantDecoded(t, "own", b)
			} else {
				wantForm(t, "exchanged", b)
			}
		}
	}
}

// someObjects are objects with few bytes, of each kind.
func someObjects() []api.Object {
	return []api.Object{
		blob(""), blob("a"), blob("a\nb"), blob("\x03\x00"), blob(text(130)),
		tree(), tree(entries("a")...), tree(entries("a", "a/b")...), tree(api.Entry{Path: "x"}, api.Entry{Path: "x.y/z"}),
		commit(api.Commit{}), commit(api.Commit{Tree: id(1), Note: "n", Tick: 64}),
		commit(api.Commit{Parents: []api.ID{{}}, Tick: 1}), commit(api.Commit{Tree: id(9), Parents: []api.ID{id(1), id(2)}, Note: text(128), Tick: 1000000}),
	}
}

// No byte can be missing at the end, or more.
func TestBytesCutOff(t *testing.T) {
	for _, o := range someObjects() {
		b := encoded(o)
		for n := range b {
			wantForm(t, "cut off", b[:n])
			wantForm(t, "cut off at the beginning", b[n+1:])
		}
		for c := range 256 {
			wantForm(t, "one more", b+string([]byte{byte(c)}))
			wantForm(t, "one more at the beginning", string([]byte{byte(c)})+b)
		}
	}
}

// Each byte that is left out, put in or changed: the bytes are another object then, or none.
func TestChangedBytes(t *testing.T) {
	valid := 0
	for _, o := range someObjects() {
		b := encoded(o)
		for at := range len(b) {
			wantDecoded(t, "left out", b[:at]+b[at+1:])
			for c := range 256 {
				one := string([]byte{byte(c)})
				changed := b[:at] + one + b[at+1:]
				wantDecoded(t, "changed", changed)
				if _, ok := parsed(changed); ok {
					valid++
				}
				if c < 5 || c == 32 || c > 250 {
					wantDecoded(t, "put in", b[:at]+one+b[at:])
				}
			}
		}
	}
	if valid < 10000 {
		t.Error("only", valid, "of the changed bytes are those of an object")
	}
}

// Parts of objects that are left out, exchanged or put in, so that the values stay valid.
func TestChangedParts(t *testing.T) {
	r := rand.New(rand.NewPCG(9, 1))
	valid := 0
	for range 60000 {
		parts := []string{number(int64(r.IntN(4))), data(randomText(r)), name(id(r.IntN(3))), list(), list(name(id(1))), list(list(data("a"), name(id(2)))), list(number(1), data("")), number(int64(r.IntN(2000000))), list(data("a"), name(id(1)))}
		var l []string
		switch r.IntN(3) {
		case 0:
			l = []string{number(1), data(randomText(r))}
		case 1:
			l = []string{number(2), list(list(data("a"), name(id(0))), list(data("b"), name(id(r.IntN(3)))))}
		case 2:
			l = []string{number(3), name(id(r.IntN(3))), list(name(id(r.IntN(2))), name(id(r.IntN(3)))), data(randomText(r)), number(int64(r.IntN(1500000)))}
		}
		some := parts[r.IntN(len(parts))]
		at := r.IntN(len(l))
		switch r.IntN(4) {
		case 0:
			l[at] = some
		case 1:
			l = slices.Insert(l, at, some)
		case 2:
			l = slices.Delete(l, at, at+1)
		case 3:
			k := r.IntN(len(l))
			l[at], l[k] = l[k], l[at]
		}
		b := list(l...)
		wantDecoded(t, "parts", b)
		if _, ok := parsed(b); ok {
			valid++
		}
	}
	if valid < 5000 {
		t.Error("only", valid, "of the changed parts are those of an object")
	}
}
