package lcs_test

import (
	"math/rand/v2"
	"slices"
	"testing"

	"siding/api"
)

// P14.2

func TestCheckOfMatchings(t *testing.T) {
	a, b := letters("abcab"), letters("bacba")
	for _, m := range []pairs{
		nil,
		{},
		of(0, 1),
		of(0, 4),
		of(3, 1),
		of(3, 4),
		of(1, 0),
		of(4, 3),
		of(2, 2),
		of(1, 0, 2, 2),
		of(0, 1, 2, 2),
		of(0, 1, 1, 3),
		of(0, 1, 1, 3, 3, 4),
		of(0, 1, 2, 2, 3, 4),
		of(1, 0, 2, 2, 4, 3),
		of(0, 1, 2, 2, 4, 3),
	} {
		wantCheck(t, "a matching", a, b, m, api.OK)
	}
}

func TestCheckOfNoMatchings(t *testing.T) {
	a, b := letters("abcab"), letters("bacba")
	for what, m := range map[string]pairs{
		"an I below 0":                        of(-1, 1),
		"a K below 0":                         of(0, -1),
		"both below 0":                        of(-1, -1),
		"an I above the last":                 of(5, 1),
		"a K above the last":                  of(0, 5),
		"both above the last":                 of(5, 5),
		"an I that is one of b":               of(7, 1),
		"lines that differ":                   of(0, 0),
		"lines that differ, first":            of(0, 0, 2, 2),
		"lines that differ, last":             of(1, 0, 2, 2, 3, 3),
		"lines that differ, between":          of(0, 1, 1, 2, 3, 4),
		"lines the other way":                 of(1, 4),
		"the same I":                          of(0, 1, 0, 4),
		"the same K":                          of(0, 1, 3, 1),
		"the same pair":                       of(0, 1, 0, 1),
		"the same pair again, behind another": of(0, 1, 2, 2, 2, 2),
		"an I that decreases":                 of(3, 1, 0, 4),
		"a K that decreases":                  of(0, 4, 3, 1),
		"both decrease":                       of(2, 2, 0, 1),
		"an I that decreases later":           of(0, 1, 2, 2, 1, 3),
		"a K that decreases later":            of(0, 1, 2, 2, 4, 0),
		"an I below 0 later":                  of(0, 1, -1, 2),
		"a K below 0 later":                   of(0, 1, 1, -1),
		"an I above the last later":           of(0, 1, 5, 3),
		"a K above the last later":            of(0, 1, 1, 5),
	} {
		wantCheck(t, what, a, b, m, api.ErrBad)
	}
}

// Indices that are none, alone, and in front of, behind and between others.
func TestCheckOfIndices(t *testing.T) {
	a := same(60, "a")
	for _, n := range extremes {
		for _, p := range []pairs{of(n, 0), of(0, n), of(n, n), of(n, 59), of(59, n), of(30, n), of(n, 30)} {
			wantCheck(t, "alone", a, a, p, api.ErrBad)
			wantCheck(t, "in front", a, a, append(slices.Clone(p), of(59, 59)...), api.ErrBad)
			wantCheck(t, "behind", a, a, append(of(0, 0), p...), api.ErrBad)
			wantCheck(t, "between", a, a, slices.Concat(of(0, 0), p, of(59, 59)), api.ErrBad)
		}
	}
	for n := 1; n <= 60; n++ {
		l := same(n, "a")
		for k := 1; k <= 60; k++ {
			wantCheck(t, "the last ones", l, same(k, "a"), of(n-1, k-1), api.OK)
			wantCheck(t, "an I behind the last one", l, same(k, "a"), of(n, k-1), api.ErrBad)
			wantCheck(t, "a K behind the last one", l, same(k, "a"), of(n-1, k), api.ErrBad)
		}
	}
}

// Each pair of indices from below 0 to behind the last one, and each two such pairs.
func TestCheckOfTwoPairs(t *testing.T) {
	a, b := letters("aba"), letters("baab")
	for i := -2; i < 6; i++ {
		for k := -2; k < 6; k++ {
			wantChecked(t, "one pair", a, b, of(i, k))
			for x := -2; x < 6; x++ {
				for y := -2; y < 6; y++ {
					wantChecked(t, "two pairs", a, b, of(i, k, x, y))
				}
			}
		}
	}
}

// wantChecked fails unless Check returns what the definition says.
func wantChecked(t *testing.T, what string, a, b list, m pairs) {
	t.Helper()
	switch {
	case len(m) > 60:
		wantCheck(t, what, a, b, m, api.ErrMany)
	case isMatching(a, b, m):
		wantCheck(t, what, a, b, m, api.OK)
	default:
		wantCheck(t, what, a, b, m, api.ErrBad)
	}
}

// Each list of up to three pairs of short lists.
func TestCheckOfAllPairs(t *testing.T) {
	for _, c := range [][2]string{{"a", "a"}, {"ab", "ab"}, {"aa", "aa"}, {"ab", "ba"}, {"aaa", "aaa"}, {"aba", "bab"}, {"abc", "abc"}, {"aab", "ab"}} {
		a, b := letters(c[0]), letters(c[1])
		all := []pairs{nil}
		for from := range 3 {
			for _, m := range all {
				if len(m) != from {
					continue
				}
				for i := range len(a) + 1 {
					for k := range len(b) + 1 {
						all = append(all, append(slices.Clone(m), of(i, k)...))
					}
				}
			}
		}
		for _, m := range all {
			wantChecked(t, c[0]+" "+c[1], a, b, m)
		}
	}
}

func TestCheckNumbersOfPairs(t *testing.T) {
	for n := range 61 {
		wantCheck(t, "pairs", same(60, "a"), same(60, "a"), row(n, 0, 0), api.OK)
		wantCheck(t, "the last pairs", same(60, "a"), same(60, "a"), row(n, 60-n, 60-n), api.OK)
		if n > 0 {
			wantCheck(t, "a list of such length", same(n, "a"), same(n, "a"), row(n, 0, 0), api.OK)
			wantCheck(t, "a pair more than lines", same(n, "a"), same(60, "a"), row(n+1, 0, 0), []api.Errno{api.ErrBad, api.ErrMany}[n/60])
			wantCheck(t, "a pair more than lines", same(60, "a"), same(n, "a"), row(n+1, 0, 0), []api.Errno{api.ErrBad, api.ErrMany}[n/60])
			wantCheck(t, "from 1 on", same(60, "a"), same(60, "a"), row(n, 61-n, 60-n), api.ErrBad)
			wantCheck(t, "from 1 on", same(60, "a"), same(60, "a"), row(n, 60-n, 61-n), api.ErrBad)
		}
	}
	for _, n := range []int{61, 62, 120, 121, 256, 257, 316, 1 << 16, 1<<16 + 1, 1<<16 + 60} {
		wantCheck(t, "too many", same(60, "a"), same(60, "a"), row(n, 0, 0), api.ErrMany)
		wantCheck(t, "too many", list{"a"}, list{"a"}, row(n, 0, 0), api.ErrMany)
		wantCheck(t, "too many of the same", list{"a"}, list{"a"}, slices.Repeat(of(0, 0), n), api.ErrMany)
		wantCheck(t, "too many wrong ones", list{"a"}, list{"b"}, slices.Repeat(of(-1, 5), n), api.ErrMany)
	}
	for _, n := range []int{2, 59, 60} {
		wantCheck(t, "as many of the same", list{"a"}, list{"a"}, slices.Repeat(of(0, 0), n), api.ErrBad)
		wantCheck(t, "as many wrong ones", list{"a"}, list{"b"}, slices.Repeat(of(-1, 5), n), api.ErrBad)
	}
	// What is behind some pairs does not belong to them.
	wantCheck(t, "room", list{"a"}, list{"a"}, append(of(0, 0), row(99, 5, 5)...)[:1], api.OK)
	wantCheck(t, "room", list{"a"}, list{"a"}, row(99, 5, 5)[:0], api.OK)
}

// One of 60 pairs is changed.
func TestCheckOfChangedPairs(t *testing.T) {
	a, b := numbered(60), same(60, "a")
	for at := range 60 {
		for _, by := range []int{-60, -2, -1, 1, 2, 60} {
			m := row(60, 0, 0)
			m[at].I += by
			wantCheck(t, "I", a, a, m, api.ErrBad)
			wantCheck(t, "I", b, b, m, api.ErrBad)
			m = row(60, 0, 0)
			m[at].K += by
			wantCheck(t, "K", a, a, m, api.ErrBad)
			wantCheck(t, "K", b, b, m, api.ErrBad)
		}
		wantCheck(t, "without one", a, a, slices.Delete(row(60, 0, 0), at, at+1), api.OK)
		c := slices.Clone(a)
		c[at] = "x"
		wantCheck(t, "a line that differs", a, c, row(60, 0, 0), api.ErrBad)
		wantCheck(t, "a line that differs", c, a, row(60, 0, 0), api.ErrBad)
		wantCheck(t, "a line that differs, without a pair", a, c, slices.Delete(row(60, 0, 0), at, at+1), api.OK)
		for n := range at {
			m := row(60, 0, 0)
			m[at], m[n] = m[n], m[at]
			wantCheck(t, "exchanged", a, a, m, api.ErrBad)
			m = row(60, 0, 0)
			m[at].K, m[n].K = m[n].K, m[at].K
			wantCheck(t, "exchanged K", b, b, m, api.ErrBad)
			m = row(60, 0, 0)
			m[at].I, m[n].I = m[n].I, m[at].I
			wantCheck(t, "exchanged I", b, b, m, api.ErrBad)
		}
	}
}

func TestCheckOfRandomPairs(t *testing.T) {
	r := rand.New(rand.NewPCG(14, 5))
	for range 5000 {
		a, b := randomList(r, 1+r.IntN(60), "a", "b"), randomList(r, 1+r.IntN(60), "a", "b")
		m := found(a, b)
		for range r.IntN(4) {
			switch at := r.IntN(len(m) + 1); {
			case at == len(m):
				m = append(m, of(r.IntN(len(a)+2), r.IntN(len(b)+2))...)
			case r.IntN(2) == 0:
				m = slices.Delete(m, at, at+1)
			default:
				m[at].I += r.IntN(3) - 1
				m[at].K += r.IntN(3) - 1
			}
		}
		wantChecked(t, "random", a, b, m)
	}
}
