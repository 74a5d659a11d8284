package store_test

import (
	"slices"
	"testing"

	"siding/api"
)

// P10.4

func TestJoin(t *testing.T) {
	for weak := 1; weak <= 32; weak++ {
		l := apart(weak, 12)
		none, all := api.Store{Weak: weak}, made(weak, l...)
		wantBoth(t, "nothing and nothing", none, none, none)
		wantBoth(t, "nothing", all, none, all)
		wantBoth(t, "itself", all, all, all)
		wantBoth(t, "the same", all, clone(all), all)
		for n := range 13 {
			wantBoth(t, "parts", made(weak, l[:n]...), made(weak, l[n:]...), all)
			wantBoth(t, "a part of it", made(weak, l[:n]...), all, all)
			for m := range n {
				wantBoth(t, "parts with common objects", made(weak, l[:n]...), made(weak, l[m:]...), all)
			}
		}
	}
}

// The objects of both stores lie between each other, before each other and behind each other.
func TestJoinPlaces(t *testing.T) {
	for _, weak := range []int{1, 2, 32} {
		l := sorted(apart(weak, 8))
		for bits := range 256 {
			var a, b []api.Object
			for i, o := range l {
				if bits&(1<<i) > 0 {
					a = append(a, o)
				} else {
					b = append(b, o)
				}
			}
			wantJoin(t, "places", made(weak, a...), made(weak, b...), made(weak, l...), api.OK)
		}
	}
	wantBoth(t, "all kinds", made(32, someObjects()[:10]...), made(32, someObjects()[5:]...), made(32, someObjects()...))
}

func TestJoinDifferentWeak(t *testing.T) {
	for weak := 1; weak <= 32; weak++ {
		for other := 1; other <= 32; other++ {
			if weak == other {
				continue
			}
			wantJoin(t, "nothing", api.Store{Weak: weak}, api.Store{Weak: other}, api.Store{}, api.ErrArg)
			wantJoin(t, "the same object", made(weak, blob("a")), made(other, blob("a")), api.Store{}, api.ErrArg)
			wantJoin(t, "an object and nothing", made(weak, blob("a")), api.Store{Weak: other}, api.Store{}, api.ErrArg)
			wantJoin(t, "nothing and an object", api.Store{Weak: weak}, made(other, blob("a")), api.Store{}, api.ErrArg)
		}
	}
	l := clashing(1, 2)
	wantJoin(t, "before ErrSame", made(1, l[0]), made(2, l[1]), api.Store{}, api.ErrArg)
	wantJoin(t, "before ErrSame", made(2, l[0]), made(1, l[1]), api.Store{}, api.ErrArg)
	wantJoin(t, "before ErrMany", made(1, apart(1, 200)...), made(32, numbered(1000)), api.Store{}, api.ErrArg)
	wantJoin(t, "before ErrMany", made(32, apart(32, 200)...), made(1, numbered(1000)), api.Store{}, api.ErrArg)
}

func TestJoinClashes(t *testing.T) {
	for weak := 1; weak <= 4; weak++ {
		l := clashing(weak, 2)
		key := keyOf(nameOf(l[0]), weak)
		many := slices.DeleteFunc(apart(weak, 30), func(a api.Object) bool { return keyOf(nameOf(a), weak) == key })
		for i, o := range l {
			a, b := made(weak, o), made(weak, l[1-i])
			wantJoin(t, "alone", a, b, api.Store{}, api.ErrSame)
			wantJoin(t, "among others", made(weak, append(slices.Clone(many), o)...), b, api.Store{}, api.ErrSame)
			wantJoin(t, "among others", b, made(weak, append(slices.Clone(many), o)...), api.Store{}, api.ErrSame)
			wantJoin(t, "among the same others", made(weak, append(slices.Clone(many), o)...), made(weak, append(slices.Clone(many), l[1-i])...), api.Store{}, api.ErrSame)
			wantBoth(t, "whole names", made(32, o), made(32, l[1-i]), made(32, l...))
		}
	}
}

func TestJoinTooMany(t *testing.T) {
	for _, weak := range []int{1, 2, 32} {
		l := apart(weak, 202)
		full := made(weak, l[:200]...)
		for _, n := range []int{0, 1, 2, 100, 198, 199, 200} {
			wantBoth(t, "200", made(weak, l[:n]...), made(weak, l[n:200]...), full)
		}
		for _, n := range []int{1, 2, 100, 101, 198, 199, 200} {
			wantJoin(t, "201", made(weak, l[:n]...), made(weak, l[n:201]...), api.Store{}, api.ErrMany)
		}
		wantBoth(t, "full and itself", full, full, full)
		wantBoth(t, "full and a part", full, made(weak, l[50:150]...), full)
		wantBoth(t, "150 and 150 of 200", made(weak, l[:150]...), made(weak, l[50:200]...), full)
		wantJoin(t, "full and full", full, made(weak, l[2:]...), api.Store{}, api.ErrMany)
		wantJoin(t, "101 and 101, one of them common", made(weak, l[:101]...), made(weak, l[100:201]...), api.Store{}, api.ErrMany)
	}
}

// The error of the first object of the second store that has one, in the order of keys.
func TestFirstError(t *testing.T) {
	for first := range 255 {
		low, high := beginning(string([]byte{byte(first)})), beginning(string([]byte{byte(first + 1)}))
		var rest []api.Object
		for _, o := range apart(1, 256) {
			if b := nameOf(o)[0]; int(b) != first && int(b) != first+1 {
				rest = append(rest, o)
			}
		}
		second := made(1, low, high)
		full := made(1, append(rest[:199:199], beginning(string([]byte{byte(first)}), low))...)
		wantJoin(t, "a clash, and then too many", full, second, api.Store{}, api.ErrSame)
		full = made(1, append(rest[:199:199], beginning(string([]byte{byte(first + 1)}), high))...)
		wantJoin(t, "too many, and then a clash", full, second, api.Store{}, api.ErrMany)
		full = made(1, append(rest[:199:199], low)...)
		wantJoin(t, "one that is there, and then too many", full, second, api.Store{}, api.ErrMany)
	}
}

// In the other order the first error may be another one: what counts is the order of the second store.
func TestFirstErrorInBothOrders(t *testing.T) {
	var l []api.Object
	for first := 56; first < 256; first++ {
		l = append(l, beginning(string([]byte{byte(first)})))
	}
	great := made(1, l...)
	small := made(1, beginning("\x00"), beginning("\x80", beginning("\x80")))
	wantJoin(t, "into the great one", great, small, api.Store{}, api.ErrMany)
	wantJoin(t, "into the small one", small, great, api.Store{}, api.ErrSame)
}
