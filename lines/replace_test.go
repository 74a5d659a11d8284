package lines_test

import (
	"math"
	"math/rand/v2"
	"slices"
	"testing"

	"siding/api"
)

// P13.4

func TestReplace(t *testing.T) {
	abc := list{"a", "b", "c"}
	for _, c := range []struct {
		from, to int
		by, want list
	}{
		// The example of the chapter.
		{1, 2, list{"x", "y"}, list{"a", "x", "y", "c"}},
		{0, 0, nil, list{"a", "b", "c"}},
		{1, 1, nil, list{"a", "b", "c"}},
		{2, 2, list{}, list{"a", "b", "c"}},
		{3, 3, nil, list{"a", "b", "c"}},
		{0, 0, list{"x"}, list{"x", "a", "b", "c"}},
		{1, 1, list{"x"}, list{"a", "x", "b", "c"}},
		{2, 2, list{"x"}, list{"a", "b", "x", "c"}},
		{3, 3, list{"x"}, list{"a", "b", "c", "x"}},
		{0, 0, list{"x", "y"}, list{"x", "y", "a", "b", "c"}},
		{3, 3, list{"x", "y"}, list{"a", "b", "c", "x", "y"}},
		{0, 1, nil, list{"b", "c"}},
		{1, 2, nil, list{"a", "c"}},
		{2, 3, nil, list{"a", "b"}},
		{0, 2, nil, list{"c"}},
		{1, 3, nil, list{"a"}},
		{0, 1, list{"x"}, list{"x", "b", "c"}},
		{1, 2, list{"x"}, list{"a", "x", "c"}},
		{2, 3, list{"x"}, list{"a", "b", "x"}},
		{0, 2, list{"x"}, list{"x", "c"}},
		{1, 3, list{"x"}, list{"a", "x"}},
		{0, 3, list{"x"}, list{"x"}},
		{0, 3, list{""}, list{""}},
		{0, 3, list{"x", "y", "z", "w"}, list{"x", "y", "z", "w"}},
		{1, 2, list{""}, list{"a", "", "c"}},
		{1, 2, list{"", ""}, list{"a", "", "", "c"}},
		{1, 2, list{"b"}, list{"a", "b", "c"}},
		{0, 2, list{"b", "a"}, list{"b", "a", "c"}},
		{1, 2, list{"\r", "\x00\xff"}, list{"a", "\r", "\x00\xff", "c"}},
		{0, 3, abc, list{"a", "b", "c"}},
		{3, 3, abc, list{"a", "b", "c", "a", "b", "c"}},
	} {
		wantReplace(t, "replace", abc, c.from, c.to, c.by, c.want, api.OK)
	}
	wantReplace(t, "an empty line", list{""}, 0, 1, list{"x"}, list{"x"}, api.OK)
	wantReplace(t, "behind an empty line", list{""}, 1, 1, list{"x"}, list{"", "x"}, api.OK)
	wantReplace(t, "before an empty line", list{""}, 0, 0, list{"x"}, list{"x", ""}, api.OK)
	wantReplace(t, "an empty line by one", list{""}, 0, 1, list{""}, list{""}, api.OK)
	wantReplace(t, "nothing of an empty line", list{""}, 0, 0, nil, list{""}, api.OK)
}

// A list without lines is not valid.
func TestReplaceLeavesNothing(t *testing.T) {
	for n := 1; n <= 60; n++ {
		for _, by := range []list{nil, {}, numbered(9)[:0], numbered(9)[9:]} {
			wantReplace(t, "nothing is left", numbered(n), 0, n, by, nil, api.ErrBad)
			if n > 1 {
				wantReplace(t, "the last one is left", numbered(n), 0, n-1, by, numbered(n)[n-1:], api.OK)
				wantReplace(t, "the first one is left", numbered(n), 1, n, by, list{"0"}, api.OK)
			}
		}
	}
}

func TestReplaceIndices(t *testing.T) {
	for _, n := range []int{1, 2, 3, 59, 60} {
		l := numbered(n)
		for _, by := range []list{nil, {"x"}, {"x", "y"}} {
			for from := -3; from <= n+3; from++ {
				for to := -3; to <= n+3; to++ {
					wantReplaced(t, "indices", l, from, to, by)
				}
			}
		}
	}
	wantReplace(t, "from below 0", list{"a", "b"}, -1, 1, nil, nil, api.ErrArg)
	wantReplace(t, "both below 0", list{"a", "b"}, -1, -1, nil, nil, api.ErrArg)
	wantReplace(t, "to below 0", list{"a", "b"}, 0, -1, nil, nil, api.ErrArg)
	wantReplace(t, "out of order", list{"a", "b"}, 1, 0, nil, nil, api.ErrArg)
	wantReplace(t, "out of order at the end", list{"a", "b"}, 2, 1, nil, nil, api.ErrArg)
	wantReplace(t, "to past the end", list{"a", "b"}, 1, 3, nil, nil, api.ErrArg)
	wantReplace(t, "from past the end", list{"a", "b"}, 3, 2, nil, nil, api.ErrArg)
	wantReplace(t, "both past the end", list{"a", "b"}, 3, 3, nil, nil, api.ErrArg)
	wantReplace(t, "all and one more", list{"a", "b"}, 0, 3, list{"x"}, nil, api.ErrArg)
	wantReplace(t, "past the end, with room", numbered(9)[:2], 1, 3, list{"x"}, nil, api.ErrArg)
	wantReplace(t, "at the end, with room", numbered(9)[:2], 2, 2, list{"x"}, list{"0", "1", "x"}, api.OK)
}

func TestReplaceExtremes(t *testing.T) {
	l := numbered(60)
	for _, n := range extremes {
		for _, by := range []list{nil, {"x"}} {
			wantReplace(t, "from", l, n, 60, by, nil, api.ErrArg)
			wantReplace(t, "from, to 0", l, n, 0, by, nil, api.ErrArg)
			wantReplace(t, "to", l, 0, n, by, nil, api.ErrArg)
			wantReplace(t, "to, from 60", l, 60, n, by, nil, api.ErrArg)
			wantReplace(t, "both", l, n, n, by, nil, api.ErrArg)
			for _, k := range extremes {
				wantReplace(t, "others", l, n, k, by, nil, api.ErrArg)
			}
		}
	}
	wantReplace(t, "the greatest range", l, math.MinInt, math.MaxInt, list{"x"}, nil, api.ErrArg)
	wantReplace(t, "the least range", l, math.MaxInt, math.MinInt, list{"x"}, nil, api.ErrArg)
}

func TestReplaceFeeds(t *testing.T) {
	l := numbered(5)
	for _, by := range []list{{"\n"}, {"a\n"}, {"\na"}, {"a\nb"}, {"a", "\n"}, {"\n", "a"}, {"a", "b\n", "c"}, {"\n", "\n"}, {"", "", "\r\n"}, joined(numbered(54), list{"\n"}), {text(500) + "\n" + text(500)}} {
		for from := range 6 {
			for to := from; to <= 5; to++ {
				wantReplace(t, "a feed", l, from, to, by, nil, api.ErrBad)
			}
		}
	}
	// What is behind the others does not belong to them.
	by := list{"x", "\n", "y\n"}
	wantReplace(t, "a feed behind", l, 0, 4, by[:1], list{"x", "4"}, api.OK)
	wantReplace(t, "two feeds behind", l, 0, 4, by[:0], list{"4"}, api.OK)
}

func TestReplaceLimitOfLines(t *testing.T) {
	for n := 1; n <= 60; n++ {
		l := numbered(n)
		for _, gone := range []int{0, 1, n / 2, n} {
			for _, from := range []int{0, (n - gone) / 2, n - gone} {
				room := 60 - n + gone
				for _, k := range []int{room - 1, room} {
					if k < 0 || n-gone+k == 0 {
						continue
					}
					by := same(k, "x")
					wantReplace(t, "full", l, from, from+gone, by, joined(l[:from], by, l[from+gone:]), api.OK)
				}
				for _, k := range []int{room + 1, room + 2, room + 60, room + 256} {
					wantReplace(t, "too full", l, from, from+gone, same(k, "x"), nil, api.ErrMany)
				}
			}
		}
	}
	many := same(1<<16+60, "x")
	for _, n := range []int{1, 2, 60} {
		l := numbered(n)
		wantReplace(t, "by far, all replaced", l, 0, n, many[:1<<16+1], nil, api.ErrMany)
		wantReplace(t, "by far, nothing replaced", l, n, n, many[:1<<16], nil, api.ErrMany)
		wantReplace(t, "by far, one replaced", l, 0, 1, many, nil, api.ErrMany)
	}
}

func TestReplaceLimitOfBytes(t *testing.T) {
	// These lines have 499 bytes, and with their line feeds 1,999.
	l := same(4, text(499))
	for at := range 5 {
		wantReplace(t, "an empty line", l, at, at, list{""}, slices.Insert(slices.Clone(l), at, ""), api.OK)
		wantReplace(t, "two empty lines", l, at, at, list{"", ""}, nil, api.ErrMany)
		wantReplace(t, "a byte", l, at, at, list{"a"}, nil, api.ErrMany)
	}
	for at := range 4 {
		for n := 490; n <= 510; n++ {
			want, err := slices.Replace(slices.Clone(l), at, at+1, text(n)), api.OK
			if n > 500 {
				want, err = nil, api.ErrMany
			}
			wantReplace(t, "one line", l, at, at+1, list{text(n)}, want, err)
		}
	}
	for _, n := range []int{1998, 1999, 2000} {
		wantReplace(t, "all lines by one", l, 0, 4, list{text(n)}, list{text(n)}, api.OK)
		wantReplace(t, "all lines by two", l, 0, 4, list{"", text(n - 1)}, list{"", text(n - 1)}, api.OK)
		wantReplace(t, "all lines by 60", l, 0, 4, filled(60, n, 9), filled(60, n, 9), api.OK)
		wantReplace(t, "all but one", l, 0, 3, list{text(n - 500)}, list{text(n - 500), text(499)}, api.OK)
	}
	for _, n := range []int{2001, 2002, 2500, 4000, 1<<16 + 1} {
		wantReplace(t, "all lines by one", l, 0, 4, list{text(n)}, nil, api.ErrMany)
		wantReplace(t, "all lines by two", l, 0, 4, list{"", text(n - 1)}, nil, api.ErrMany)
		wantReplace(t, "all lines by 60", l, 0, 4, filled(60, n, 9), nil, api.ErrMany)
		wantReplace(t, "all but one", l, 0, 3, list{text(n - 500)}, nil, api.ErrMany)
		wantReplace(t, "one line", list{"a"}, 0, 1, list{text(n)}, nil, api.ErrMany)
	}
	wantReplace(t, "valid alone, not joined", list{"a"}, 0, 0, list{text(2000)}, nil, api.ErrMany)
	wantReplace(t, "valid alone, not joined", list{""}, 1, 1, list{text(2000)}, nil, api.ErrMany)
	wantReplace(t, "valid alone, and joined", list{""}, 1, 1, list{text(1999)}, list{"", text(1999)}, api.OK)
	wantReplace(t, "a longest line by others", list{text(2000)}, 0, 1, list{"a", "b"}, list{"a", "b"}, api.OK)
	wantReplace(t, "a longest line stays", list{text(2000)}, 0, 0, nil, list{text(2000)}, api.OK)
	wantReplace(t, "a longest line and an empty one", list{text(2000)}, 1, 1, list{""}, nil, api.ErrMany)
}

// The errors of l, of the indices, of the others, and of what is left, in this order.
func TestOrderOfReplaceErrors(t *testing.T) {
	for what, l := range badLists() {
		err := errorOf(l)
		for _, by := range []list{nil, {"x"}, {"\n"}, numbered(61), joined(numbered(61), list{"\n"})} {
			wantReplace(t, what+", nothing replaced", l, 0, 0, by, nil, err)
			wantReplace(t, what+", all replaced", l, 0, len(l), by, nil, err)
			wantReplace(t, what+", all but one", l, 0, max(len(l)-1, 0), by, nil, err)
			wantReplace(t, what+", all behind one", l, min(1, len(l)), len(l), by, nil, err)
			wantReplace(t, what+", below 0", l, -1, 0, by, nil, err)
			wantReplace(t, what+", past the end", l, 0, len(l)+1, by, nil, err)
			wantReplace(t, what+", out of order", l, 1, 0, by, nil, err)
		}
	}
	for what, l := range goodLists() {
		for _, by := range []list{nil, {"x"}, {"\n"}, numbered(61), {text(2001)}, joined(numbered(61), list{"\n"})} {
			wantReplace(t, what+", below 0", l, -1, 0, by, nil, api.ErrArg)
			wantReplace(t, what+", past the end", l, 0, len(l)+1, by, nil, api.ErrArg)
			wantReplace(t, what+", out of order", l, 1, 0, by, nil, api.ErrArg)
		}
		for _, by := range []list{{"\n"}, joined(numbered(61), list{"\n"}), joined(list{"\n"}, numbered(61)), {text(2001), "\n"}, {text(2001) + "\n"}, {"\n", text(2001)}, {feeds(3000)}, same(61, "\n")} {
			wantReplace(t, what+", a feed", l, 0, len(l), by, nil, api.ErrBad)
			wantReplace(t, what+", a feed in front", l, 0, 0, by, nil, api.ErrBad)
			wantReplace(t, what+", a feed behind", l, len(l), len(l), by, nil, api.ErrBad)
		}
		for _, by := range []list{numbered(61), {text(2001)}, same(61, ""), filled(60, 2001, 3)} {
			wantReplace(t, what+", too many", l, 0, len(l), by, nil, api.ErrMany)
			wantReplace(t, what+", too many in front", l, 0, 0, by, nil, api.ErrMany)
			wantReplace(t, what+", too many behind", l, len(l), len(l), by, nil, api.ErrMany)
		}
		wantReplace(t, what+", nothing is left", l, 0, len(l), nil, nil, api.ErrBad)
	}
}

// The others are replaced by lists of any kind.
func TestReplaceByLists(t *testing.T) {
	for what, l := range goodLists() {
		for other, by := range badLists() {
			for _, from := range []int{0, 1, len(l) - 1, len(l)} {
				wantReplaced(t, what+", "+other, l, from, len(l), by)
				wantReplaced(t, what+", "+other, l, 0, from, by)
			}
		}
		for other, by := range goodLists() {
			for _, from := range []int{0, 1, len(l) - 1, len(l)} {
				wantReplaced(t, what+", "+other, l, from, len(l), by)
				wantReplaced(t, what+", "+other, l, 0, from, by)
			}
		}
	}
}

func TestReplaceInShortLists(t *testing.T) {
	for _, l := range listsOf([]string{"", "a", "\n"}, 3) {
		for _, by := range listsOf([]string{"", "b", "\n"}, 2) {
			for from := -1; from <= len(l)+1; from++ {
				for to := -1; to <= len(l)+1; to++ {
					wantReplaced(t, "short", l, from, to, by)
				}
			}
		}
	}
}

func TestReplaceInRandomLists(t *testing.T) {
	r := rand.New(rand.NewPCG(13, 4))
	for range 5000 {
		l := randomList(r, 1+r.IntN(60), "", "a", "b", text(r.IntN(60)))
		by := randomList(r, r.IntN(1+r.IntN(62)), "", "c", "d", text(r.IntN(60)))
		from := r.IntN(len(l) + 1)
		wantReplaced(t, "random", l, from, from+r.IntN(len(l)-from+1), by)
	}
}
