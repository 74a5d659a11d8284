package lines_test

import (
	"math/rand/v2"
	"slices"
	"testing"

	"siding/api"
)

// P13.3

// The examples of the chapter.
func TestCommonOfExamples(t *testing.T) {
	wantCommon(t, "example", list{"a", "b", "c"}, list{"a", "c"}, 1, 1, api.OK)
	wantCommon(t, "example", list{"a", "a"}, list{"a", "a", "a"}, 2, 0, api.OK)
}

func TestCommon(t *testing.T) {
	for _, c := range []struct {
		a, b        list
		front, back int
	}{
		{list{"a"}, list{"a"}, 1, 0},
		{list{""}, list{""}, 1, 0},
		{list{"a"}, list{"b"}, 0, 0},
		{list{"a"}, list{""}, 0, 0},
		{list{"a", "b"}, list{"b", "a"}, 0, 0},
		{list{"a", "b"}, list{"a", "c"}, 1, 0},
		{list{"b", "a"}, list{"c", "a"}, 0, 1},
		{list{"a", "b", "a"}, list{"a", "c", "a"}, 1, 1},
		{list{"a", "b", "a"}, list{"a"}, 1, 0},
		{list{"a", "b", "a"}, list{"a", "a"}, 1, 1},
		{list{"a", "b", "c"}, list{"a", "b"}, 2, 0},
		{list{"a", "b", "c"}, list{"b", "c"}, 0, 2},
		{list{"a", "b", "c"}, list{"b"}, 0, 0},
		{list{"a", "b", "c"}, list{"a"}, 1, 0},
		{list{"a", "b", "c"}, list{"c"}, 0, 1},
		{list{"a", "b", "a", "b"}, list{"a", "b"}, 2, 0},
		{list{"a", "b", "a", "b"}, list{"a", "b", "a", "b", "a", "b"}, 4, 0},
		{list{"a", "b", "c", "a", "b"}, list{"a", "b", "a", "b"}, 2, 2},
		{list{"a", "b", "b", "c"}, list{"a", "b", "c"}, 2, 1},
		{list{"a", "a", "a"}, list{"a"}, 1, 0},
		{list{"b", "a", "a"}, list{"a"}, 0, 1},
		{list{"b", "a", "a"}, list{"a", "a", "a"}, 0, 2},
		{list{"a", ""}, list{"b", ""}, 0, 1},
		{list{"a", ""}, list{"a"}, 1, 0},
		{list{"", "a"}, list{"a"}, 0, 1},
		{list{"a", "x", "b", "c"}, list{"a", "y", "z", "b", "c"}, 1, 2},
		{list{"a", "x", "b", "y", "c"}, list{"a", "z", "b", "w", "c"}, 1, 1},
		{list{"ab"}, list{"a"}, 0, 0},
		{list{"ab", "c"}, list{"a", "bc"}, 0, 0},
		{list{"a", "bc"}, list{"ab", "c"}, 0, 0},
		{list{"a", "b"}, list{"A", "B"}, 0, 0},
		{list{"a", "b"}, list{"a ", " b"}, 0, 0},
		{list{"\xff"}, list{"\xfe"}, 0, 0},
		{list{"\xff", "a"}, list{"\ufffd", "a"}, 0, 1},
	} {
		wantCommon(t, "common", c.a, c.b, c.front, c.back, api.OK)
		wantCommon(t, "the other way", c.b, c.a, c.front, c.back, api.OK)
		wantCommon(t, "the first one alone", c.a, c.a, len(c.a), 0, api.OK)
	}
}

// All that lists may have in common in front and behind, with nothing, others and different ones between.
func TestCommonOfAllSizes(t *testing.T) {
	l := numbered(60)
	for front := range 61 {
		for _, back := range []int{0, 1, 2, 7, 29, 30, 58, 59, 60} {
			for _, between := range []int{1, 2, 9, 60 - front - back} {
				if between < 1 || front+back+between > 60 {
					continue
				}
				with := func(n int, line string) list { return joined(l[:front], same(n, line), l[60-back:]) }
				wantCommon(t, "others", with(between, "x"), with(between, "y"), front, back, api.OK)
				wantCommon(t, "one other", with(1, "x"), with(between, "y"), front, back, api.OK)
				if front+back > 0 {
					wantCommon(t, "nothing, others", with(0, ""), with(between, "y"), front, back, api.OK)
					wantCommon(t, "others, nothing", with(between, "x"), with(0, ""), front, back, api.OK)
					wantCommon(t, "nothing", with(0, ""), with(0, ""), front+back, 0, api.OK)
				}
			}
		}
	}
}

// One list is the front, the back or a part of the other one.
func TestCommonOfParts(t *testing.T) {
	l := numbered(60)
	for from := range 60 {
		for to := from + 1; to <= 60; to++ {
			front, back := 0, 0
			if from == 0 {
				front = to
			} else if to == 60 {
				back = 60 - from
			}
			wantCommon(t, "a part", l, l[from:to], front, back, api.OK)
			wantCommon(t, "the other way", l[from:to], l, front, back, api.OK)
		}
	}
}

// Front and back would overlap.
func TestCommonOfSameLines(t *testing.T) {
	for n := 1; n <= 60; n++ {
		for k := 1; k <= 60; k++ {
			wantCommon(t, "same lines", same(n, "a"), same(k, "a"), min(n, k), 0, api.OK)
			if n < 60 {
				wantCommon(t, "but the first one", joined(list{"b"}, same(n, "a")), same(k, "a"), 0, min(n, k), api.OK)
				wantCommon(t, "but the last one", joined(same(n, "a"), list{"b"}), same(k, "a"), min(n, k), 0, api.OK)
			}
		}
	}
	for n := 1; n < 60; n++ {
		for at := range n + 1 {
			l := slices.Insert(same(n, "a"), at, "b")
			for k := 1; k <= 60; k += 7 {
				front := min(at, k)
				wantCommon(t, "but one", l, same(k, "a"), front, min(n-at, k-front), api.OK)
			}
		}
	}
}

// Joined one behind the other the lines may be the same, or nearly so.
func TestCommonComparesWholeLines(t *testing.T) {
	for at := range 300 {
		line := []byte(text(300))
		line[at] ^= 1
		if line[at] == '\n' {
			t.Fatal("a line feed")
		}
		other := string(line)
		wantCommon(t, "one bit", list{"a", text(300), "b"}, list{"a", other, "b"}, 1, 1, api.OK)
		wantCommon(t, "a byte less", list{text(300), "b"}, list{text(300)[:at], "b"}, 0, 1, api.OK)
		wantCommon(t, "a byte less, behind", list{"b", text(300)}, list{"b", text(300)[at+1:]}, 1, 0, api.OK)
	}
}

func TestCommonOfShortLists(t *testing.T) {
	all := listsOf([]string{"", "a", "b"}, 4)
	for _, a := range all[1:] {
		for _, b := range all[1:] {
			front, back := common(a, b)
			wantCommon(t, "short", a, b, front, back, api.OK)
		}
	}
	all = listsOf([]string{"a", "b"}, 6)
	for _, a := range all[1:] {
		for _, b := range all[1:] {
			front, back := common(a, b)
			wantCommon(t, "short", a, b, front, back, api.OK)
		}
	}
}

// badLists are lists with an error.
func badLists() map[string]list {
	return map[string]list{
		"nil":                            nil,
		"empty":                          {},
		"empty, with room":               numbered(9)[:0],
		"a feed":                         {"\n"},
		"a feed behind":                  {"a", "b\n"},
		"a feed in front":                {"\na", "b"},
		"a feed in the last of 60":       joined(numbered(59), list{"a\nb"}),
		"too many lines":                 numbered(61),
		"too many empty lines":           same(61, ""),
		"much too many lines":            numbered(1<<16 + 1),
		"too many bytes":                 {text(2001)},
		"too many bytes with the feeds":  {text(1000), text(1000)},
		"too many bytes in 60 lines":     filled(60, 2001, 7),
		"too many lines and bytes":       filled(61, 2001, 60),
		"too many lines and a feed":      joined(numbered(60), list{"\n"}),
		"too many bytes and a feed":      {"\n", text(2000)},
		"too many of all":                joined(filled(60, 2000, 0), list{"\n"}),
		"too many bytes, in one feed":    {text(2000) + "\n"},
		"too many lines, in front of 60": joined(list{"a"}, numbered(60)),
	}
}

// goodLists are valid ones.
func goodLists() map[string]list {
	return map[string]list{
		"one line":             {"a"},
		"an empty line":        {""},
		"two lines":            {"a", "b"},
		"60 lines":             numbered(60),
		"60 lines, with room":  numbered(99)[:60],
		"60 full lines":        filled(60, 2000, 30),
		"one line of 2,000":    {text(2000)},
		"the same lines again": same(60, "a"),
	}
}

func TestCommonErrors(t *testing.T) {
	for what, a := range badLists() {
		for good, b := range goodLists() {
			wantCommon(t, what+", first, "+good, a, b, 0, 0, errorOf(a))
			wantCommon(t, what+", second, "+good, b, a, 0, 0, errorOf(a))
		}
		for other, b := range badLists() {
			wantCommon(t, what+", "+other, a, b, 0, 0, errorOf(a))
		}
		wantCommon(t, what, a, slices.Clone(a), 0, 0, errorOf(a))
	}
	for what, a := range goodLists() {
		for other, b := range goodLists() {
			front, back := common(a, b)
			wantCommon(t, what+", "+other, a, b, front, back, api.OK)
		}
	}
}

func TestOrderOfCommonErrors(t *testing.T) {
	wantCommon(t, "many, then bad", numbered(61), nil, 0, 0, api.ErrMany)
	wantCommon(t, "bad, then many", nil, numbered(61), 0, 0, api.ErrBad)
	wantCommon(t, "bad, then many", list{"\n"}, list{text(2001)}, 0, 0, api.ErrBad)
	wantCommon(t, "many, then bad", list{text(2001)}, list{"\n"}, 0, 0, api.ErrMany)
	wantCommon(t, "good, then bad", list{"a"}, list{"a", "\n"}, 0, 0, api.ErrBad)
	wantCommon(t, "good, then many", list{"a"}, same(61, "a"), 0, 0, api.ErrMany)
	wantCommon(t, "bad, then good", list{"a", "\n"}, list{"a"}, 0, 0, api.ErrBad)
	wantCommon(t, "many, then good", same(61, "a"), list{"a"}, 0, 0, api.ErrMany)
}

func TestCommonOfRandomLists(t *testing.T) {
	r := rand.New(rand.NewPCG(13, 3))
	for range 5000 {
		n := 1 + r.IntN(60)
		a := randomList(r, n, "", "a", "b", "c")
		b := slices.Clone(a)
		for range r.IntN(4) {
			at := r.IntN(len(b))
			switch r.IntN(3) {
			case 0:
				b[at] = "d"
			case 1:
				b = slices.Delete(b, at, min(len(b), at+1+r.IntN(3)))
			default:
				b = slices.Insert(b, at, randomList(r, r.IntN(4), "a", "b")...)
			}
			if len(b) == 0 {
				b = list{"e"}
			}
		}
		front, back := common(a, b)
		if e := errorOf(b); e != api.OK {
			front, back = 0, 0
		}
		wantCommon(t, "random", a, b, front, back, errorOf(b))
		wantCommon(t, "the other way", b, a, front, back, errorOf(b))
	}
}
