package store_test

import (
	"testing"

	"siding/api"
)

// P10.1

// The key of an object does not depend on what the store has.
func TestKeys(t *testing.T) {
	for weak := 1; weak <= 32; weak++ {
		l := apart(weak, 200)
		for _, s := range []api.Store{{Weak: weak}, made(weak, blob("a")), made(weak, l[:3]...), made(weak, l...)} {
			if len(s.Keys) == 200 && weak > 2 && weak < 31 {
				continue
			}
			for _, o := range someObjects() {
				wantKey(t, "key", s, o, keyOf(nameOf(o), weak), api.OK)
			}
			wantKey(t, "key of what is there", s, l[0], keyOf(nameOf(l[0]), weak), api.OK)
		}
	}
}

// Key does not mind an object with the same key.
func TestKeysOfClashes(t *testing.T) {
	for weak := 1; weak <= 3; weak++ {
		l := clashing(weak, 2)
		key := keyOf(nameOf(l[0]), weak)
		wantKey(t, "the first one", made(weak, l[0]), l[1], key, api.OK)
		wantKey(t, "the second one", made(weak, l[1]), l[0], key, api.OK)
		if keyOf(nameOf(l[0]), weak+1) != keyOf(nameOf(l[1]), weak+1) {
			wantKey(t, "one byte more", api.Store{Weak: weak + 1}, l[1], keyOf(nameOf(l[1]), weak+1), api.OK)
		}
	}
}

func TestKeysOfBadObjects(t *testing.T) {
	for what, o := range badObjects() {
		for weak := 1; weak <= 32; weak++ {
			wantKey(t, what, api.Store{Weak: weak}, o, api.ID{}, api.ErrBad)
		}
		wantKey(t, what, made(32, apart(32, 200)...), o, api.ID{}, api.ErrBad)
	}
}

// P10.3

// Each bit of a name that counts, and each that does not.
func TestNamesOfObjects(t *testing.T) {
	for weak := 1; weak <= 32; weak++ {
		o := blob("a")
		s := made(weak, o)
		wantGet(t, "the name", s, nameOf(o), o)
		wantGet(t, "the key", s, keyOf(nameOf(o), weak), o)
		for bit := range 256 {
			id := nameOf(o)
			id[bit/8] ^= 1 << (bit % 8)
			if bit/8 < weak {
				wantNone(t, "a bit that counts", s, id)
			} else {
				wantGet(t, "a bit that does not count", s, id, o)
			}
		}
		id := nameOf(o)
		for at := weak; at < 32; at++ {
			id[at] = 255 - id[at]
		}
		wantGet(t, "all that does not count", s, id, o)
		id[weak-1]++
		wantNone(t, "the last one that counts", s, id)
	}
}

// Each object of a store, in each place, and names of objects that are not there.
func TestAllOfAStore(t *testing.T) {
	for _, weak := range []int{1, 2, 32} {
		l := apart(weak, 240)
		for _, n := range []int{0, 1, 2, 3, 4, 5, 8, 199, 200} {
			s := made(weak, l[:n]...)
			for i, o := range l {
				if n > 10 && i%17 > 0 && i > 5 && (i < 190 || i > 210) {
					continue
				}
				if i < n {
					wantGet(t, "there", s, nameOf(o), o)
				} else {
					wantNone(t, "not there", s, nameOf(o))
				}
			}
		}
	}
}

// Names that lie close to those of a store.
func TestNamesBetween(t *testing.T) {
	s := made(32, apart(32, 20)...)
	for _, key := range s.Keys {
		for at := range 32 {
			for _, by := range []byte{1, 255, 128} {
				id := key
				id[at] += by
				wantNone(t, "close", s, id)
			}
		}
	}
	wantNone(t, "the least name", s, api.ID{})
	var greatest api.ID
	for i := range greatest {
		greatest[i] = 255
	}
	wantNone(t, "the greatest name", s, greatest)
	for weak := 1; weak <= 32; weak++ {
		wantNone(t, "nothing", api.Store{Weak: weak}, nameOf(blob("a")))
	}
}

// The name of zeros, with and without an object whose key this is.
func TestZeros(t *testing.T) {
	o := beginning("\x00")
	wantGet(t, "zeros", made(1, o), api.ID{}, o)
	wantGet(t, "zeros", made(1, o), api.ID{1: 1, 31: 255}, o)
	wantNone(t, "one", made(1, o), api.ID{0: 1})
	wantNone(t, "zeros", made(2, o), api.ID{})
	wantNone(t, "zeros", made(32, o), api.ID{})
	wantNone(t, "zeros", made(1, beginning("\x01")), api.ID{})
}

// An object of each kind comes back as it was.
func TestObjectsComeBack(t *testing.T) {
	s := made(32, someObjects()...)
	for _, o := range someObjects() {
		wantGet(t, "all", s, nameOf(o), o)
		wantGet(t, "alone", made(1, o), nameOf(o), o)
	}
}
