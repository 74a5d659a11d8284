package lines_test

import (
	"math/rand/v2"
	"strings"
	"testing"

	"siding/api"
)

// P13.2

func TestJoin(t *testing.T) {
	for want, l := range map[string]list{
		"":                {""},
		"a":               {"a"},
		"\n":              {"", ""},
		"a\n":             {"a", ""},
		"\na":             {"", "a"},
		"a\nb":            {"a", "b"},
		"b\na":            {"b", "a"},
		"a\n\nb\n":        {"a", "", "b", ""},
		"a\na\na":         {"a", "a", "a"},
		"\n\n\n":          {"", "", "", ""},
		"ab\ncd":          {"ab", "cd"},
		"\r\n\r":          {"\r", "\r"},
		"\x00\n\xff\x8a":  {"\x00", "\xff\x8a"},
		" a\n b ":         {" a", " b "},
		"\u2028\n\u20ac,": {"\u2028", "\u20ac,"},
		"\xe2\n\x82\xac":  {"\xe2", "\x82\xac"},
		"\\n\n\"\n":       {"\\n", "\"", ""},
	} {
		wantJoin(t, "join", l, want, api.OK)
	}
}

func TestJoinOfNoLines(t *testing.T) {
	wantJoin(t, "nil", nil, "", api.ErrBad)
	wantJoin(t, "empty", list{}, "", api.ErrBad)
	wantJoin(t, "empty, with room", numbered(60)[:0], "", api.ErrBad)
	wantJoin(t, "empty, with much room", numbered(100)[70:70], "", api.ErrBad)
}

func TestJoinNumbersOfLines(t *testing.T) {
	for n := 1; n <= 60; n++ {
		wantJoin(t, "empty lines", same(n, ""), feeds(n-1), api.OK)
		wantJoin(t, "lines", same(n, "ab"), strings.Repeat("ab\n", n-1)+"ab", api.OK)
		wantJoin(t, "different lines", numbered(n), textOf(numbered(n)), api.OK)
	}
	for _, n := range []int{61, 62, 100, 120, 256, 257, 316, 2000, 2001, 2002, 1 << 16, 1<<16 + 1, 1<<16 + 60} {
		wantJoin(t, "empty lines", same(n, ""), "", api.ErrMany)
		wantJoin(t, "lines", same(n, "ab"), "", api.ErrMany)
		wantJoin(t, "different lines", numbered(n), "", api.ErrMany)
	}
	// What is behind a list does not belong to it.
	wantJoin(t, "room", same(1000, "\n")[:0:0], "", api.ErrBad)
	wantJoin(t, "room", joined(numbered(60), same(9, text(2000)), list{"\n"})[:60], textOf(numbered(60)), api.OK)
}

func TestJoinNumbersOfBytes(t *testing.T) {
	for n := 1; n <= 60; n++ {
		for _, long := range []int{0, n / 2, n - 1} {
			for _, size := range []int{100, 1998, 1999, 2000} {
				l := filled(n, size, long)
				wantJoin(t, "filled", l, textOf(l), api.OK)
			}
			for _, size := range []int{2001, 2002, 2059, 2060, 4000, 4001} {
				wantJoin(t, "too full", filled(n, size, long), "", api.ErrMany)
			}
		}
	}
	for _, n := range []int{1<<16 - 1, 1 << 16, 1<<16 + 1, 1<<16 + 2000, 1 << 20} {
		wantJoin(t, "by far", list{text(n)}, "", api.ErrMany)
		wantJoin(t, "by far, the second one", list{"", text(n)}, "", api.ErrMany)
		wantJoin(t, "by far, both", list{text(n / 2), text(n / 2)}, "", api.ErrMany)
	}
	wantJoin(t, "characters", same(2, strings.Repeat("\u00e4", 500)), "", api.ErrMany)
	wantJoin(t, "all lines alike", same(50, text(39)), strings.Repeat(text(39)+"\n", 49)+text(39), api.OK)
	wantJoin(t, "all lines alike, and a feed more", same(51, text(39)), "", api.ErrMany)
	wantJoin(t, "just the bytes", same(60, text(32)), strings.Repeat(text(32)+"\n", 59)+text(32), api.OK)
	wantJoin(t, "a byte more in each line", same(60, text(33)), "", api.ErrMany)
}

// Bytes are too many only with the line feeds between the lines.
func TestJoinFeedsCount(t *testing.T) {
	for n := 2; n <= 60; n++ {
		l := same(n, "")
		l[n/2] = text(2000)
		wantJoin(t, "with the feeds", l, "", api.ErrMany)
		l[n/2] = text(2000 - n + 2)
		wantJoin(t, "with the feeds but one", l, "", api.ErrMany)
		l[n/2] = text(2000 - n + 1)
		wantJoin(t, "with all feeds", l, textOf(l), api.OK)
	}
}

func TestJoinFeedsInLines(t *testing.T) {
	for n := 1; n <= 60; n++ {
		for _, at := range []int{0, n / 2, n - 1} {
			for _, line := range []string{"\n", "\n\n", "a\n", "\na", "a\nb", "\r\n", "\n\r", "\x00\n", text(100) + "\n", "\n" + text(100), feeds(100)} {
				l := numbered(n)
				l[at] = line
				wantJoin(t, "a feed", l, "", api.ErrBad)
			}
		}
		wantJoin(t, "feeds", same(n, "\n"), "", api.ErrBad)
	}
	// All bytes of a line are looked at.
	for at := range 200 {
		wantJoin(t, "a feed", list{"a", text(at) + "\n" + text(199-at), "b"}, "", api.ErrBad)
	}
	// One list may have as many line feeds as another one, or as many as its lines.
	wantJoin(t, "one line", list{"a\nb"}, "", api.ErrBad)
	wantJoin(t, "two lines", list{"a", "b"}, "a\nb", api.OK)
	wantJoin(t, "a list of no line but a feed", list{"\n", ""}, "", api.ErrBad)
}

// Too much comes before a line feed in a line.
func TestOrderOfJoinErrors(t *testing.T) {
	for _, at := range []int{0, 30, 60} {
		l := numbered(61)
		l[at] = "\n"
		wantJoin(t, "too many lines and a feed", l, "", api.ErrMany)
		l = filled(60, 2001, 30)
		l[at%60] += "\n"
		wantJoin(t, "too many bytes and a feed", l, "", api.ErrMany)
		l = joined(filled(60, 2001, 30), list{""})
		l[at] += "\n"
		wantJoin(t, "all of it", l, "", api.ErrMany)
	}
	wantJoin(t, "as many feeds as there may be bytes", list{feeds(2000)}, "", api.ErrBad)
	wantJoin(t, "more feeds than there may be bytes", list{feeds(2001)}, "", api.ErrMany)
	wantJoin(t, "more feeds with another line", list{feeds(1000), feeds(1000)}, "", api.ErrMany)
	wantJoin(t, "as many with another line", list{feeds(1000), feeds(999)}, "", api.ErrBad)
	wantJoin(t, "as many with empty lines", joined(same(30, ""), list{feeds(1941)}, same(29, "")), "", api.ErrBad)
	wantJoin(t, "as many with more empty lines", joined(same(30, ""), list{feeds(1941)}, same(30, "")), "", api.ErrMany)
	wantJoin(t, "the feed of a line counts", list{"\n" + text(1998), ""}, "", api.ErrBad)
	wantJoin(t, "the feed of a line counts", list{"\n" + text(1999), ""}, "", api.ErrMany)
}

func TestShortLists(t *testing.T) {
	for _, l := range listsOf([]string{"", "a", "b", "\n", "ab"}, 5) {
		if e := errorOf(l); e != api.OK {
			wantJoin(t, "short", l, "", e)
		} else {
			wantJoin(t, "short", l, textOf(l), api.OK)
		}
	}
}

func TestRandomLists(t *testing.T) {
	r := rand.New(rand.NewPCG(13, 2))
	for range 3000 {
		l := randomList(r, r.IntN(63), "", "a", randomText(r, r.IntN(40), 1000), text(r.IntN(60)), text(r.IntN(60)))
		if e := errorOf(l); e != api.OK {
			wantJoin(t, "random", l, "", e)
		} else {
			wantJoin(t, "random", l, textOf(l), api.OK)
		}
	}
}
