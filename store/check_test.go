package store_test

import (
	"crypto/sha256"
	"maps"
	"slices"
	"strings"
	"testing"

	"siding/api"
	"siding/store"
)

// P10.1

func TestNew(t *testing.T) {
	want := func(weak int) {
		t.Helper()
		got, e := store.New(weak)
		if weak >= 1 && weak <= 32 {
			if !sameStore(got, api.Store{Weak: weak}) || e != api.OK {
				t.Error(weak, brief(got), e)
			}
			wantValid(t, "new", got)
			wantNone(t, "new", got, api.ID{})
			return
		}
		if !sameStore(got, api.Store{}) || e != api.ErrArg {
			t.Error(weak, brief(got), e)
		}
	}
	for weak := -300; weak <= 300; weak++ {
		want(weak)
	}
	for _, weak := range extremes {
		want(weak)
	}
}

// A store whose bytes are written out, as the chapter's definitions say.
func TestLiteralStore(t *testing.T) {
	key := "\xce\xcd\xea\x2e\xff\x59\x95\x37\x53\x14\xfe\xa3\xa1\xc9\xb1\x1d\x0e\x73\x5d\x26\x02\x69\x29\x39\x9b\xef\xa9\x0a\x45\xf7\x4f\xbf"
	for weak := 1; weak <= 32; weak++ {
		s := api.Store{Weak: weak, Keys: []api.ID{api.ID([]byte(key[:weak] + strings.Repeat("\x00", 32-weak)))}, Objs: [][]byte{{3, 2, 1, 2, 2, 1, 97}}}
		wantValid(t, "literal", s)
		wantPut(t, "literal", api.Store{Weak: weak}, blob("a"), s)
		wantGet(t, "literal", s, api.ID([]byte(key)), blob("a"))
		wantBoth(t, "literal", s, api.Store{Weak: weak}, s)
	}
}

func TestValidStores(t *testing.T) {
	for weak := 1; weak <= 32; weak++ {
		for _, n := range []int{0, 1, 2, 3, 10, 199, 200} {
			wantValid(t, "apart", made(weak, apart(weak, n)...))
		}
		for _, o := range someObjects() {
			wantValid(t, "alone", made(weak, o))
		}
		if weak > 1 {
			wantValid(t, "of all kinds", made(weak, someObjects()...))
		}
	}
}

// Names that begin with each byte, 0 and 255 among them.
func TestEachFirstByte(t *testing.T) {
	var low, high []api.Object
	for first := range 256 {
		o := beginning(string([]byte{byte(first)}))
		wantValid(t, "one", made(1, o))
		wantGet(t, "one", made(1, o), keyOf(nameOf(o), 1), o)
		if first < 200 {
			low = append(low, o)
		}
		if first >= 56 {
			high = append(high, o)
		}
	}
	wantValid(t, "the lowest keys", made(1, low...))
	wantValid(t, "the highest keys", made(1, high...))
}

// Weak that is out of its range, whatever the store has.
func TestWeak(t *testing.T) {
	for _, weak := range extremes {
		wantBad(t, "empty", api.Store{Weak: weak})
		for _, other := range []int{1, 31, 32} {
			s := made(other, apart(other, 3)...)
			s.Weak = weak
			wantBad(t, "not empty", s)
		}
	}
	s := made(1, blob("a"))
	s.Weak, s.Keys[0] = 0, api.ID{}
	wantBad(t, "nothing of a name", s)
}

// The keys of a store are those of its own Weak.
func TestKeysOfAnotherWeak(t *testing.T) {
	for weak := 1; weak <= 32; weak++ {
		for other := 1; other <= 32; other++ {
			s := made(other, blob("a"), blob("b"))
			s.Weak = weak
			if weak == other {
				wantValid(t, "the same", s)
			} else {
				wantBad(t, "another one", s)
			}
		}
	}
}

func TestTooManyObjects(t *testing.T) {
	for _, weak := range []int{1, 2, 31, 32} {
		wantValid(t, "200", made(weak, apart(weak, 200)...))
		wantBad(t, "201", made(weak, apart(weak, 201)...))
		wantBad(t, "202", made(weak, apart(weak, 202)...))
		wantBad(t, "256", made(weak, apart(weak, 256)...))
	}
	wantBad(t, "457", made(32, apart(32, 457)...))
}

// As many Objs as Keys.
func TestKeysAndObjs(t *testing.T) {
	for _, weak := range []int{1, 32} {
		for _, n := range []int{1, 2, 3, 200} {
			s := made(weak, apart(weak, n)...)
			for at := range n {
				if n == 200 && at > 3 && at < 197 {
					continue
				}
				missing := clone(s)
				missing.Objs = slices.Delete(missing.Objs, at, at+1)
				wantBad(t, "an object is missing", missing)
				missing = clone(s)
				missing.Keys = slices.Delete(missing.Keys, at, at+1)
				wantBad(t, "a key is missing", missing)
			}
			wantBad(t, "no objects", api.Store{Weak: weak, Keys: s.Keys})
			wantBad(t, "no keys", api.Store{Weak: weak, Objs: s.Objs})
			more := clone(s)
			more.Objs = append(more.Objs, nil)
			wantBad(t, "an empty object more", more)
			more.Objs[n] = []byte(encoded(blob("a")))
			wantBad(t, "an object more", more)
			more = clone(s)
			more.Keys = append(more.Keys, api.ID{0: 255, 31: 255})
			wantBad(t, "a key more", more)
		}
	}
	s := made(32, apart(32, 1)...)
	wantBad(t, "256 objects more", api.Store{Weak: 32, Keys: s.Keys, Objs: slices.Repeat(s.Objs, 257)})
}

// wantOrder fails unless two of some objects are a valid store just if the key of the first one is less.
func wantOrder(t *testing.T, weak int, l []api.Object) {
	t.Helper()
	for _, a := range l {
		for _, b := range l {
			x, y := keyOf(nameOf(a), weak), keyOf(nameOf(b), weak)
			s := api.Store{Weak: weak, Keys: []api.ID{x, y}, Objs: [][]byte{[]byte(encoded(a)), []byte(encoded(b))}}
			if string(x[:]) < string(y[:]) {
				wantValid(t, "in order", s)
			} else {
				wantBad(t, "out of order", s)
			}
		}
	}
}

// Keys that differ in the first byte, or in one that lies behind.
func TestOrderOfKeys(t *testing.T) {
	some := []api.Object{beginning("\x00"), beginning("\x01"), beginning("\x7f"), beginning("\x80"), beginning("\xff")}
	wantOrder(t, 1, append(some, clashing(1, 3)...))
	for _, weak := range []int{2, 3, 31, 32} {
		wantOrder(t, weak, slices.Concat(some, clashing(1, 4), clashing(2, 2)))
	}
	wantOrder(t, 32, slices.Concat(clashing(3, 2), clashing(4, 2)))
}

// Two keys that are exchanged, with their objects, or without them, and one that is there twice.
func TestKeysOutOfOrder(t *testing.T) {
	for _, weak := range []int{1, 32} {
		for _, n := range []int{2, 3, 5, 200} {
			s := made(weak, apart(weak, n)...)
			for _, i := range []int{0, 1, n / 2, n - 2, n - 1} {
				for _, k := range []int{0, 1, n / 2, n - 2, n - 1} {
					if i == k {
						continue
					}
					exchanged := clone(s)
					exchanged.Keys[i], exchanged.Keys[k] = exchanged.Keys[k], exchanged.Keys[i]
					wantBad(t, "exchanged keys", exchanged)
					exchanged.Objs[i], exchanged.Objs[k] = exchanged.Objs[k], exchanged.Objs[i]
					wantBad(t, "exchanged keys and objects", exchanged)
					exchanged = clone(s)
					exchanged.Objs[i], exchanged.Objs[k] = exchanged.Objs[k], exchanged.Objs[i]
					wantBad(t, "exchanged objects", exchanged)
				}
			}
			if n == 200 {
				continue
			}
			for i := range n {
				twice := clone(s)
				twice.Keys = slices.Insert(twice.Keys, i, twice.Keys[i])
				twice.Objs = slices.Insert(twice.Objs, i, twice.Objs[i])
				wantBad(t, "an object twice", twice)
			}
		}
	}
	for _, weak := range []int{1, 2, 3} {
		l := clashing(weak, 2)
		s := made(weak, l[0])
		s.Keys = append(s.Keys, s.Keys[0])
		s.Objs = append(s.Objs, []byte(encoded(l[1])))
		wantBad(t, "different objects with the same key", s)
	}
}

// noObjects are bytes that are those of no object.
func noObjects() map[string]string {
	all := map[string]string{
		"no bytes":           "",
		"a kind":             "\x03",
		"no value":           "\x00\xff",
		"a number":           number(1),
		"bytes":              data("a"),
		"an empty list":      list(),
		"a list of a kind":   list(number(1)),
		"a kind in two":      "\x03\x02\x01\x82\x00\x02\x01a",
		"more than a value":  encoded(blob("a")) + "\x00",
		"two objects":        encoded(blob("a")) + encoded(blob("b")),
		"less than a value":  strings.TrimSuffix(encoded(blob("a")), "a"),
		"a text":             "a",
		"an entry too short": list(number(2), list(list(data("a"), data("b")))),
		"very many bytes":    strings.Repeat("\x03\x01", 5000),
	}
	for what, o := range wrongObjects() {
		all[what] = encoded(o)
	}
	return all
}

// Bytes that are no object, under the key that their digest has, before, between and behind objects.
func TestBytesThatAreNoObject(t *testing.T) {
	for _, weak := range []int{1, 5, 32} {
		for what, b := range noObjects() {
			key := keyOf(sha256.Sum256([]byte(b)), weak)
			before, behind := map[string]string{string(key[:]): b}, map[string]string{string(key[:]): b}
			for _, o := range apart(1, 40) {
				other := keyOf(nameOf(o), weak)
				if other[0] > key[0] {
					before[string(other[:])] = encoded(o)
				}
				if other[0] < key[0] {
					behind[string(other[:])] = encoded(o)
				}
			}
			between := maps.Clone(before)
			maps.Copy(between, behind)
			wantBad(t, what+", alone", laid(weak, map[string]string{string(key[:]): b}))
			wantBad(t, what+", before", laid(weak, before))
			wantBad(t, what+", between", laid(weak, between))
			wantBad(t, what+", behind", laid(weak, behind))
		}
	}
}

// A byte of an object that is changed, put in, or left out: it is none any more, or has another key.
func TestChangedObjects(t *testing.T) {
	s := made(32, blob("abc"), tree(api.Entry{Path: "a"}), commit(api.Commit{Note: "n"}))
	for i, b := range s.Objs {
		for at := range b {
			changed := clone(s)
			changed.Objs[i][at] ^= 1
			wantBad(t, "changed", changed)
			changed = clone(s)
			changed.Objs[i] = slices.Insert(changed.Objs[i], at, b[at])
			wantBad(t, "put in", changed)
			changed = clone(s)
			changed.Objs[i] = slices.Delete(changed.Objs[i], at, at+1)
			wantBad(t, "left out", changed)
		}
		changed := clone(s)
		changed.Objs[i] = append(changed.Objs[i], 0)
		wantBad(t, "put behind", changed)
	}
}

// An object under a key that differs from its own one in any bit.
func TestObjectsUnderAnotherKey(t *testing.T) {
	for weak := 1; weak <= 32; weak++ {
		s := made(weak, blob("a"))
		for bit := range 256 {
			changed := clone(s)
			changed.Keys[0][bit/8] ^= 1 << (bit % 8)
			if bit%8 > 0 && weak > 2 && weak < 30 {
				continue
			}
			wantBad(t, "a bit", changed)
		}
		changed := clone(s)
		changed.Keys[0] = keyOf(nameOf(blob("b")), weak)
		wantBad(t, "the key of another object", changed)
		changed.Keys[0] = api.ID{}
		wantBad(t, "no key", changed)
		if weak < 32 {
			changed.Keys[0] = nameOf(blob("a"))
			wantBad(t, "the whole name", changed)
		}
	}
}

// In each place of a store one object is exchanged for another one, whose key fits into the order.
func TestForeignObjects(t *testing.T) {
	for _, weak := range []int{1, 2, 32} {
		s := made(weak, apart(weak, 200)...)
		for _, at := range []int{0, 1, 2, 99, 100, 101, 197, 198, 199} {
			foreign := clone(s)
			foreign.Objs[at] = []byte(encoded(blob("foreign")))
			wantBad(t, "foreign", foreign)
			foreign.Objs[at] = nil
			wantBad(t, "nothing", foreign)
		}
	}
}
