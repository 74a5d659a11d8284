package delta_test

import (
	"math/rand/v2"
	"slices"
	"testing"

	"siding/api"
)

// P11.2

func TestApply(t *testing.T) {
	for _, c := range []struct {
		base   string
		l      parts
		target string
	}{
		{"", nil, ""},
		{"abc", nil, ""},
		{"abc", parts{}, ""},
		{"", parts{inserted("x")}, "x"},
		{"abc", parts{inserted("x")}, "x"},
		{"abc", parts{copied(0, 3)}, "abc"},
		{"abc", parts{copied(0, 1)}, "a"},
		{"abc", parts{copied(1, 1)}, "b"},
		{"abc", parts{copied(2, 1)}, "c"},
		{"abc", parts{copied(1, 2)}, "bc"},
		{"abc", parts{copied(0, 2), copied(1, 2)}, "abbc"},
		{"abc", parts{copied(2, 1), copied(1, 1), copied(0, 1)}, "cba"},
		{"abc", parts{copied(0, 3), copied(0, 3), copied(0, 3)}, "abcabcabc"},
		{"abc", parts{inserted("x"), copied(1, 2), inserted("yz"), inserted("a")}, "xbcyza"},
		{"abcdef", parts{copied(0, 3), inserted("x"), copied(3, 3)}, "abcxdef"},
		{"abcdef", parts{copied(2, 4), copied(2, 4)}, "cdefcdef"},
		{"\x00\xff\n", parts{copied(1, 2), inserted("\x00\xfe"), copied(0, 1)}, "\xff\n\x00\xfe\x00"},
	} {
		wantApply(t, "literal", c.base, c.l, c.target, api.OK)
	}
}

// A base of no bytes has none to copy.
func TestApplyToNothing(t *testing.T) {
	wantApply(t, "the first byte", "", parts{copied(0, 1)}, "", api.ErrRange)
	wantApply(t, "behind an insert", "", parts{inserted("ab"), copied(0, 1)}, "", api.ErrRange)
	wantApply(t, "what was inserted", "", parts{inserted("ab"), copied(0, 2)}, "", api.ErrRange)
}

// What is copied comes from the base alone, not from what was made so far.
func TestCopiesComeFromTheBase(t *testing.T) {
	wantApply(t, "base", "ab", parts{inserted("xy"), copied(0, 2), copied(0, 2)}, "xyabab", api.OK)
	wantApply(t, "behind the base", "ab", parts{copied(0, 2), copied(0, 2), copied(2, 1)}, "", api.ErrRange)
}

func TestLengthOfTheBase(t *testing.T) {
	for _, n := range []int{0, 1, 299, 300, 301, 1998, 1999, 2000} {
		wantApply(t, "not too long", text(n), nil, "", api.OK)
		wantApply(t, "not too long", text(n), parts{inserted("a")}, "a", api.OK)
		if n > 0 {
			wantApply(t, "all of it", text(n), parts{copied(0, n)}, text(n), api.OK)
			wantApply(t, "its last byte", text(n), parts{copied(n-1, 1)}, text(n)[n-1:], api.OK)
		}
	}
	for _, n := range []int{2001, 2002, 2256, 4000, 1 << 16, 1<<16 + 5} {
		for _, l := range []parts{nil, {inserted("a")}, {copied(0, 1)}, {copied(2000, 2000)}, {{}}, make(parts, 201)} {
			wantApply(t, "too long", text(n), l, "", api.ErrMany)
		}
	}
}

// Results of MaxText bytes, and of more, whichever part makes them too long.
func TestLengthOfTheResult(t *testing.T) {
	base := text(2000)
	for _, l := range []parts{
		{inserted(text(2000))},
		{copied(0, 2000)},
		{copied(0, 1000), copied(0, 1000)},
		{copied(0, 1999), inserted("a")},
		{inserted("a"), copied(0, 1999)},
		{inserted(text(999)), inserted(text(1001))},
		slices.Repeat(parts{copied(5, 10)}, 200),
		slices.Repeat(parts{inserted(text(10))}, 200),
		slices.Repeat(parts{inserted(text(7)), copied(5, 13)}, 100),
	} {
		wantApply(t, "2000", base, l, applied(base, l), api.OK)
		for at := range l {
			more := clone(l)
			if len(more[at].Data) == 2000 || more[at].N == 2000 {
				continue
			}
			if len(more[at].Data) > 0 {
				more[at].Data = append(more[at].Data, 'x')
			} else {
				more[at].N++
			}
			wantApply(t, "2001", base, more, "", api.ErrMany)
		}
		for at := range len(l) + 1 {
			if len(l) < 200 {
				wantApply(t, "a copy more", base, slices.Insert(slices.Clone(l), at, copied(0, 1)), "", api.ErrMany)
				wantApply(t, "an insert more", base, slices.Insert(slices.Clone(l), at, inserted("x")), "", api.ErrMany)
			}
		}
	}
	wantApply(t, "very long", base, slices.Repeat(parts{copied(0, 2000)}, 200), "", api.ErrMany)
	wantApply(t, "very long", base, slices.Repeat(parts{inserted(base)}, 200), "", api.ErrMany)
}

// Check's error comes before that of a result that is too long, also if this would be seen first.
func TestCheckBeforeTheLength(t *testing.T) {
	long := parts{inserted(text(2000)), inserted("a")}
	wantApply(t, "range", "abc", append(clone(long), copied(3, 1)), "", api.ErrRange)
	wantApply(t, "range", "abc", append(parts{copied(3, 1)}, long...), "", api.ErrRange)
	wantApply(t, "bad", "abc", append(clone(long), api.DeltaPart{}), "", api.ErrBad)
	wantApply(t, "bad", "abc", append(parts{copied(3, 1)}, append(clone(long), api.DeltaPart{})...), "", api.ErrBad)
	wantApply(t, "long", "abc", append(clone(long), copied(2, 1)), "", api.ErrMany)
}

// randomDelta is one of at most so many parts that fits a base.
func randomDelta(r *rand.Rand, base string, most int) parts {
	var l parts
	for range r.IntN(most + 1) {
		if len(base) > 0 && r.IntN(2) == 0 {
			at := r.IntN(len(base))
			l = append(l, copied(at, 1+r.IntN(min(len(base)-at, 30))))
		} else {
			l = append(l, inserted(text(300)[r.IntN(250):][:1+r.IntN(20)]))
		}
	}
	return l
}

func TestRandomDeltas(t *testing.T) {
	r := rand.New(rand.NewPCG(11, 1))
	seen := map[bool]int{}
	for range 3000 {
		base := text(r.IntN(2001))
		l := randomDelta(r, base, 200)
		long := len(applied(base, l)) > 2000
		seen[long]++
		wantDelta(t, "random", l)
		if long {
			wantApply(t, "random", base, l, "", api.ErrMany)
		} else {
			wantApply(t, "random", base, l, applied(base, l), api.OK)
		}
	}
	if seen[true] < 100 || seen[false] < 100 {
		t.Error(seen)
	}
}
