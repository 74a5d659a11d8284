package store_test

import (
	"slices"
	"strings"
	"testing"

	"siding/api"
)

// P10.2

func TestPutIntoNothing(t *testing.T) {
	for weak := 1; weak <= 32; weak++ {
		for _, o := range someObjects() {
			wantPut(t, "alone", api.Store{Weak: weak}, o, made(weak, o))
		}
	}
}

// An object comes into each place of stores of each size.
func TestPutIntoEachPlace(t *testing.T) {
	for _, weak := range []int{1, 2, 32} {
		for _, n := range []int{1, 2, 3, 4, 10, 199, 200} {
			l := sorted(apart(weak, n))
			for at := range l {
				if n > 10 && at > 2 && at < n-2 && at != n/2 {
					continue
				}
				s := made(weak, slices.Delete(slices.Clone(l), at, at+1)...)
				wantPut(t, "place", s, l[at], made(weak, l...))
			}
		}
	}
}

func TestPutAgain(t *testing.T) {
	for _, weak := range []int{1, 2, 31, 32} {
		for _, n := range []int{1, 2, 10, 199, 200} {
			l := sorted(apart(weak, n))
			s := made(weak, l...)
			for _, at := range []int{0, n / 2, n - 1} {
				wantPut(t, "again", s, l[at], s)
			}
		}
	}
	s := made(32, someObjects()...)
	for _, o := range someObjects() {
		wantPut(t, "again", s, o, s)
	}
}

// Different objects with the same key.
func TestClashes(t *testing.T) {
	for weak := 1; weak <= 4; weak++ {
		l := clashing(weak, 2)
		for i, o := range l {
			other := l[1-i]
			wantNoPut(t, "alone", made(weak, o), other, api.ErrSame)
			wantPut(t, "one byte more", made(weak+4, o), other, made(weak+4, o, other))
			wantPut(t, "whole names", made(32, o), other, made(32, o, other))
			key := keyOf(nameOf(o), weak)
			many := slices.DeleteFunc(apart(weak, 30), func(a api.Object) bool { return keyOf(nameOf(a), weak) == key })
			wantNoPut(t, "among others", made(weak, append(many, o)...), other, api.ErrSame)
			wantPut(t, "the same object", made(weak, append(many, o)...), o, made(weak, append(many, o)...))
		}
	}
}

// All bytes of objects are compared: these here differ in a single one, or are of different kinds.
func TestClashesOfLikeObjects(t *testing.T) {
	for _, long := range []int{1, 50, 2000} {
		for _, at := range []int{0, long / 2, long - 1} {
			seen := map[api.ID]api.Object{}
			found := false
			for c := range 256 {
				text := []byte(strings.Repeat("a", long))
				if text[at] = byte(c); c == '\n' {
					continue
				}
				o := blob(string(text))
				key := keyOf(nameOf(o), 1)
				if other, ok := seen[key]; ok {
					wantNoPut(t, "like", made(1, other), o, api.ErrSame)
					wantNoPut(t, "like", made(1, o), other, api.ErrSame)
					found = true
				}
				seen[key] = o
			}
			if !found {
				t.Error("no two of these texts clash", long, at)
			}
		}
	}
	l := someObjects()
	for tick := range 600 {
		l = append(l, commit(api.Commit{Tick: tick}), tree(api.Entry{Path: "a", Blob: api.ID{byte(tick), byte(tick >> 8)}}))
	}
	for _, o := range l {
		id := nameOf(o)
		other := beginning(string(id[:1]), o)
		wantNoPut(t, "kinds", made(1, other), o, api.ErrSame)
		wantNoPut(t, "kinds", made(1, o), other, api.ErrSame)
	}
}

// What a store that is full takes, and the order of errors.
func TestFullStores(t *testing.T) {
	for _, weak := range []int{1, 2, 32} {
		l := apart(weak, 203)
		full := made(weak, l[:200]...)
		wantPut(t, "the last one", made(weak, l[:199]...), l[199], full)
		for _, o := range l[200:] {
			wantNoPut(t, "one more", full, o, api.ErrMany)
			wantPut(t, "one more, when there is room", made(weak, l[:199]...), o, made(weak, append(slices.Clone(l[:199]), o)...))
		}
		for _, o := range l[:200:200][190:] {
			wantPut(t, "one that is there", full, o, full)
			id := nameOf(o)
			if weak < 3 {
				other := beginning(string(id[:weak]), o)
				wantNoPut(t, "one with the same key", full, other, api.ErrSame)
			}
		}
		for what, o := range badObjects() {
			wantNoPut(t, what, full, o, api.ErrBad)
		}
	}
}

func TestPutBadObjects(t *testing.T) {
	for what, o := range badObjects() {
		for weak := 1; weak <= 32; weak++ {
			wantNoPut(t, what, api.Store{Weak: weak}, o, api.ErrBad)
			wantNoPut(t, what, made(weak, apart(weak, 2)...), o, api.ErrBad)
		}
	}
	// What would have the key of an object that is there.
	bad := blob(strings.Repeat("a", 2001))
	id := nameOf(bad)
	wantNoPut(t, "bad, with the key of another one", made(1, beginning(string(id[:1]))), bad, api.ErrBad)
}
