package lcs_test

import (
	"math/rand/v2"
	"slices"
	"testing"

	"siding/api"
	"siding/lcs"
)

// P14.1

// The examples of the chapter.
func TestExamples(t *testing.T) {
	a, b := list{"a", "b", "c", "d"}, list{"b", "a", "c"}
	wantCheck(t, "example", a, b, of(0, 1, 2, 2), api.OK)
	wantCheck(t, "example", a, b, of(1, 0, 2, 2), api.OK)
	wantBest(t, "example", a, b, of(0, 1, 2, 2), api.OK)
	wantLength(t, "example", a, b, 2, api.OK)
	wantDistance(t, "example", a, b, 3, api.OK)
	wantBest(t, "example", list{"a", "a"}, list{"a"}, of(0, 0), api.OK)
}

func TestBest(t *testing.T) {
	for _, c := range []struct {
		a, b string
		want pairs
	}{
		{"a", "a", of(0, 0)},
		{"a", "b", nil},
		{"a", "aa", of(0, 0)},
		{"aa", "aa", of(0, 0, 1, 1)},
		{"aa", "aaa", of(0, 0, 1, 1)},
		{"ab", "ba", of(0, 1)},
		{"ba", "ab", of(0, 1)},
		{"xa", "aa", of(1, 0)},
		{"xa", "ab", of(1, 0)},
		{"xya", "aaa", of(2, 0)},
		{"aab", "b", of(2, 0)},
		{"b", "aab", of(0, 2)},
		{"aba", "ba", of(1, 0, 2, 1)},
		{"abab", "ba", of(1, 0, 2, 1)},
		{"abab", "ab", of(0, 0, 1, 1)},
		{"ab", "abab", of(0, 0, 1, 1)},
		{"aba", "aca", of(0, 0, 2, 2)},
		{"abc", "cab", of(0, 1, 1, 2)},
		{"cab", "abc", of(1, 0, 2, 1)},
		{"abcab", "bca", of(1, 0, 2, 1, 3, 2)},
		{"ab", "aabb", of(0, 0, 1, 2)},
		{"aabb", "ab", of(0, 0, 2, 1)},
		{"xyz", "yxz", of(0, 1, 2, 2)},
		{"xyz", "yzx", of(1, 0, 2, 1)},
		{"pxy", "pyx", of(0, 0, 1, 2)},
		{"pxyq", "pyxq", of(0, 0, 1, 2, 3, 3)},
		{"ac", "abac", of(0, 0, 1, 3)},
		{"abac", "ac", of(0, 0, 3, 1)},
		{"abc", "abc", of(0, 0, 1, 1, 2, 2)},
		{"abc", "def", nil},
		{"abcabba", "cbabac", of(1, 1, 3, 2, 4, 3, 6, 4)},
		{"abcd", "dcba", of(0, 3)},
		{"aabbaa", "abab", of(0, 0, 1, 2, 2, 3)},
		{"xaxbxc", "yaybyc", of(1, 1, 3, 3, 5, 5)},
	} {
		wantAll(t, c.a+" "+c.b, letters(c.a), letters(c.b), c.want)
	}
}

// Lines are the same only byte by byte.
func TestLinesThatDiffer(t *testing.T) {
	for _, c := range [][2]list{
		{{"a"}, {"A"}},
		{{"a"}, {""}},
		{{"a"}, {"a "}},
		{{"a"}, {" a"}},
		{{"a"}, {"a\r"}},
		{{"a"}, {"a\x00"}},
		{{"\xff"}, {"\xfe"}},
		{{"\xff"}, {"\ufffd"}},
		{{"e\u0301"}, {"\u00e9"}},
		{{"ab", "c"}, {"a", "bc"}},
		{{"ab"}, {"a", "b"}},
		{{""}, {" "}},
	} {
		wantAll(t, "different lines", c[0], c[1], nil)
		wantAll(t, "the other way", c[1], c[0], nil)
		wantAll(t, "with another one", joined(c[0], list{"x"}), joined(c[1], list{"x"}), of(len(c[0]), len(c[1])))
	}
	for at := range 300 {
		line := []byte(text(300))
		line[at] ^= 1
		wantAll(t, "one bit", list{"a", text(300), "b"}, list{"a", string(line), "b"}, of(0, 0, 2, 2))
		wantAll(t, "a byte less", list{text(300), "b"}, list{text(300)[:at], "b"}, of(1, 1))
		wantAll(t, "a byte less in front", list{"b", text(300)}, list{"b", text(300)[at+1:]}, of(0, 0))
	}
}

func TestEmptyLines(t *testing.T) {
	for _, c := range []struct {
		a, b list
		want pairs
	}{
		{list{""}, list{""}, of(0, 0)},
		{list{""}, list{"a"}, nil},
		{list{"", "a"}, list{"a", ""}, of(0, 1)},
		{list{"a", ""}, list{"", "a"}, of(0, 1)},
		{list{"", ""}, list{""}, of(0, 0)},
		{list{""}, list{"a", ""}, of(0, 1)},
		{list{"a", "", "b", ""}, list{"a", "b", ""}, of(0, 0, 2, 1, 3, 2)},
		{list{"a", "", "b", ""}, list{"", "", "b", ""}, of(1, 0, 2, 2, 3, 3)},
		{list{"", "a", "", "b"}, list{"b", "", "", "c"}, of(0, 1, 2, 2)},
	} {
		wantAll(t, "empty lines", c.a, c.b, c.want)
	}
	for n := 1; n <= 60; n++ {
		wantAll(t, "empty lines", same(n, ""), same(60, ""), row(n, 0, 0))
		wantAll(t, "empty lines behind", same(60, ""), joined(list{"a"}, same(n-1, "")), row(n-1, 0, 1))
	}
}

// All lists of short ones, against all matchings.
func TestBestOfShortLists(t *testing.T) {
	for _, c := range []struct {
		some list
		n    int
	}{{list{"", "a", "b", "c"}, 3}, {list{"a", "b", "c"}, 4}, {list{"a", "b"}, 5}, {list{"a"}, 7}} {
		all := listsOf(c.some, c.n)
		for _, a := range all {
			for _, b := range all {
				wantAll(t, "short", a, b, tried(a, b))
			}
		}
	}
}

// Random short lists, against all matchings.
func TestBestOfRandomShortLists(t *testing.T) {
	r := rand.New(rand.NewPCG(14, 1))
	for range 4000 {
		a := randomList(r, 1+r.IntN(9), "a", "b", "c", "d")
		b := randomList(r, 1+r.IntN(9), "a", "b", "c", "d")
		wantAll(t, "random", a, b, tried(a, b))
		wantAll(t, "the other way", b, a, tried(b, a))
	}
	for range 300 {
		all := numbered(8)
		r.Shuffle(8, func(i, k int) { all[i], all[k] = all[k], all[i] })
		wantAll(t, "shuffled", numbered(8), all, tried(numbered(8), all))
	}
}

// Both models find the same.
func TestModels(t *testing.T) {
	all := listsOf(list{"a", "b", "c"}, 4)
	for _, a := range all {
		for _, b := range all {
			if m, n := found(a, b), tried(a, b); !slices.Equal(m, n) || !isMatching(a, b, m) {
				t.Fatal(a, b, m, n)
			}
		}
	}
}

func TestBestOfRandomLists(t *testing.T) {
	r := rand.New(rand.NewPCG(14, 2))
	for range 600 {
		some := numbered(1 + r.IntN(40))
		a, b := randomList(r, 1+r.IntN(60), some...), randomList(r, 1+r.IntN(60), some...)
		wantAll(t, "random", a, b, found(a, b))
		b = edited(r, a, r.IntN(9))
		wantAll(t, "edited", a, b, found(a, b))
		wantAll(t, "edited, the other way", b, a, found(b, a))
		c := edited(r, a, r.IntN(20))
		wantAll(t, "both edited", b, c, found(b, c))
		wantAll(t, "turned", b, turned(a), found(b, turned(a)))
	}
}

func TestBestOfEqualLists(t *testing.T) {
	r := rand.New(rand.NewPCG(14, 3))
	for n := 1; n <= 60; n++ {
		for _, l := range []list{numbered(n), same(n, ""), same(n, "a"), filled(n, 2000, n/2), randomList(r, n, "", "a", "b")} {
			wantAll(t, "equal", l, l, row(n, 0, 0))
			wantAll(t, "equal", l, slices.Clone(l), row(n, 0, 0))
		}
	}
	for what, l := range goodLists() {
		wantAll(t, what, l, l, row(len(l), 0, 0))
	}
}

func TestBestOfNothingInCommon(t *testing.T) {
	for n := 1; n <= 60; n++ {
		for k := 1; k <= 60; k += 1 + k%7 {
			wantAll(t, "nothing in common", same(n, "a"), same(k, "b"), nil)
			wantAll(t, "nothing in common", numbered(n), same(k, ""), nil)
			wantAll(t, "nothing in common", same(n, "a"), numbered(k), nil)
		}
	}
	wantAll(t, "full", list{text(2000)}, list{text(1999)}, nil)
	wantAll(t, "full", filled(60, 2000, 0), same(60, "x"), nil)
}

// All lines are the same, and one list has more of them.
func TestBestOfSameLines(t *testing.T) {
	for n := 1; n <= 60; n++ {
		for k := 1; k <= 60; k++ {
			wantAll(t, "same lines", same(n, "a"), same(k, "a"), row(min(n, k), 0, 0))
		}
	}
	for at := range 60 {
		// The lines in front of the one that differs, and then those behind it, have their pairs as soon as possible.
		l := slices.Insert(same(59, "a"), at, "b")
		wantAll(t, "but one", l, same(60, "a"), append(row(at, 0, 0), row(59-at, at+1, at)...))
		wantAll(t, "but one", same(60, "a"), l, append(row(at, 0, 0), row(59-at, at, at+1)...))
	}
}

// A line that stands once has its pair at each place, and one that stands several times the first place.
func TestBestOfOneLine(t *testing.T) {
	for n := 1; n <= 60; n++ {
		for at := range n {
			l := numbered(n)
			wantAll(t, "one line", list{l[at]}, l, of(0, at))
			wantAll(t, "one line", l, list{l[at]}, of(at, 0))
			l = joined(same(at, "x"), same(n-at, "a"))
			wantAll(t, "one of several", list{"a"}, l, of(0, at))
			wantAll(t, "one of several", l, list{"a"}, of(at, 0))
		}
		wantAll(t, "no line", list{"a"}, numbered(n), nil)
		wantAll(t, "no line", numbered(n), list{"a"}, nil)
	}
	wantAll(t, "one line each", list{"a"}, list{"a"}, of(0, 0))
	wantAll(t, "one line each", list{"a"}, list{"b"}, nil)
	wantAll(t, "one line each", list{text(2000)}, list{text(2000)}, of(0, 0))
}

// Lines that all differ go from the front to the back: the longer part has the pairs, and the first one if both are as long.
func TestBestOfMovedLines(t *testing.T) {
	for n := 1; n <= 60; n++ {
		l := numbered(n)
		for by := range n {
			want := row(n-by, by, 0)
			if by >= n-by {
				want = row(by, 0, n-by)
			}
			wantAll(t, "moved", l, joined(l[by:], l[:by]), want)
		}
		wantAll(t, "turned", l, turned(l), of(0, n-1))
	}
}

// Each two neighbours are exchanged, so that one of both has a pair: the one that comes first in a.
func TestBestOfExchangedLines(t *testing.T) {
	var l list
	var want pairs
	for at := 0; at < 60; at += 2 {
		l = append(l, numbered(60)[at+1], numbered(60)[at])
		want = append(want, of(at, at+1)...)
	}
	wantAll(t, "exchanged", numbered(60), l, want)
}

// One list is a part of the other one.
func TestBestOfParts(t *testing.T) {
	l := numbered(60)
	for from := range 60 {
		for to := from + 1; to <= 60; to++ {
			wantAll(t, "a part", l, l[from:to], row(to-from, from, 0))
			wantAll(t, "a part", l[from:to], l, row(to-from, 0, from))
		}
	}
}

// 60 lines each, with all that a text may have.
func TestBestOfFullLists(t *testing.T) {
	for at := 0; at < 60; at += 3 {
		a := filled(60, 2000, at)
		for to := range 60 {
			b := filled(60, 2000, to)
			wantAll(t, "full", a, b, found(a, b))
		}
	}
}

// wantError fails unless all functions return the error of a, and then that of b.
func wantError(t *testing.T, what string, a, b list) {
	t.Helper()
	e := errorOf(a)
	if e == api.OK {
		e = errorOf(b)
	}
	if e == api.OK {
		t.Fatal(what, "both lists are valid")
	}
	wantErrors(t, what, a, b, e)
}

func TestErrors(t *testing.T) {
	for what, a := range badLists() {
		for good, b := range goodLists() {
			wantError(t, what+", first, "+good, a, b)
			wantError(t, what+", second, "+good, b, a)
		}
		for other, b := range badLists() {
			wantError(t, what+", "+other, a, b)
		}
		wantError(t, what, a, slices.Clone(a))
	}
}

// The limits, by one and by far.
func TestLimitsOfLists(t *testing.T) {
	for n := 1; n <= 60; n++ {
		for _, size := range []int{n - 1, 300, 2000} {
			l := filled(n, max(size, n-1), n-1)
			wantAll(t, "within", l, l, row(n, 0, 0))
		}
		wantErrors(t, "too many bytes", filled(n, 2001, n/2), list{"a"}, api.ErrMany)
		wantErrors(t, "too many bytes, second", list{"a"}, filled(n, 2001, n/2), api.ErrMany)
		feed := numbered(n)
		feed[n/2] += "\n"
		wantErrors(t, "a feed", feed, list{"a"}, api.ErrBad)
		wantErrors(t, "a feed, second", list{"a"}, feed, api.ErrBad)
	}
	for _, n := range []int{61, 62, 120, 121, 256, 257, 316, 1 << 16, 1<<16 + 60} {
		wantErrors(t, "too many lines", same(n, ""), list{"a"}, api.ErrMany)
		wantErrors(t, "too many lines, second", list{"a"}, same(n, ""), api.ErrMany)
	}
}

func TestOrderOfErrors(t *testing.T) {
	many, bad, good := numbered(61), list{"a", "\n"}, list{"a"}
	wantErrors(t, "many, then bad", many, bad, api.ErrMany)
	wantErrors(t, "bad, then many", bad, many, api.ErrBad)
	wantErrors(t, "many, then none", many, nil, api.ErrMany)
	wantErrors(t, "none, then many", nil, many, api.ErrBad)
	wantErrors(t, "bytes, then bad", list{text(2001)}, bad, api.ErrMany)
	wantErrors(t, "bad, then bytes", bad, list{text(2001)}, api.ErrBad)
	wantErrors(t, "good, then many", good, many, api.ErrMany)
	wantErrors(t, "good, then bad", good, bad, api.ErrBad)
	wantErrors(t, "good, then none", good, nil, api.ErrBad)
	wantErrors(t, "many and bad in one", joined(many, bad), good, api.ErrMany)
	wantErrors(t, "many and bad in the second one", good, joined(bad, many), api.ErrMany)
}

// The error of each list is that of the layer below.
func TestErrorsOfRandomLists(t *testing.T) {
	r := rand.New(rand.NewPCG(14, 4))
	random := func() list {
		return randomList(r, r.IntN(64), "", "a", "bc", text(r.IntN(60)), text(r.IntN(60)), []string{"b", "\n"}[r.IntN(2)])
	}
	for range 2000 {
		a, b := random(), random()
		if errorOf(a) != api.OK || errorOf(b) != api.OK {
			wantError(t, "random", a, b)
		} else {
			wantAll(t, "random", a, b, found(a, b))
		}
	}
}

// There are far too many matchings to try them all.
func TestManyMatchings(t *testing.T) {
	a := letters("ababababababababababababababababababababababababababababab")
	b := letters("babbabaabbababbaabababbabaabbabaabbababbabaabbababbaababab")
	wantAll(t, "many", a, b, found(a, b))
	if n, e := lcs.Length(a, b); n < 40 || e != api.OK {
		t.Error(n, e)
	}
}
