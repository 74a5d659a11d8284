package lcs_test

import (
	"math/rand/v2"
	"slices"
	"testing"

	"siding/api"
	"siding/lcs"
)

// P14.3 and P14.4

func length(t *testing.T, a, b list) int {
	t.Helper()
	n, e := lcs.Length(a, b)
	if e != api.OK {
		t.Fatalf("length of %s and %s: %d", brief(a), brief(b), e)
	}
	return n
}

func distance(t *testing.T, a, b list) int {
	t.Helper()
	n, e := lcs.Distance(a, b)
	if e != api.OK {
		t.Fatalf("distance of %s and %s: %d", brief(a), brief(b), e)
	}
	return n
}

func best(t *testing.T, a, b list) pairs {
	t.Helper()
	m, e := lcs.Best(a, b)
	if e != api.OK {
		t.Fatalf("best of %s and %s: %d", brief(a), brief(b), e)
	}
	return m
}

func TestDistance(t *testing.T) {
	for _, c := range []struct {
		a, b string
		want int
	}{
		{"a", "a", 0},
		{"a", "b", 2},
		{"a", "aa", 1},
		{"aa", "a", 1},
		{"a", "bbb", 4},
		{"ab", "ba", 2},
		{"abc", "abc", 0},
		{"abc", "ac", 1},
		{"abc", "axc", 2},
		{"abc", "cba", 4},
		{"abcd", "bac", 3},
		{"abcd", "efgh", 8},
		{"abcabba", "cbabac", 5},
	} {
		wantDistance(t, c.a+" "+c.b, letters(c.a), letters(c.b), c.want, api.OK)
		wantDistance(t, c.b+" "+c.a, letters(c.b), letters(c.a), c.want, api.OK)
	}
	wantDistance(t, "the greatest one", same(60, "a"), same(60, "b"), 120, api.OK)
	wantDistance(t, "60 lines", same(60, "a"), same(60, "a"), 0, api.OK)
	wantDistance(t, "60 lines and one", same(60, "a"), list{"a"}, 59, api.OK)
	wantDistance(t, "60 lines and another one", list{"b"}, same(60, "a"), 61, api.OK)
}

// wantNothingBetter fails unless a matching has fewer pairs than the best one, or as many and does not come before it.
func wantNothingBetter(t *testing.T, a, b list, m pairs) {
	t.Helper()
	got := best(t, a, b)
	wantCheck(t, "the best one", a, b, got, api.OK)
	wantCheck(t, "another one", a, b, m, api.OK)
	if len(m) > len(got) || len(m) == len(got) && comesBefore(m, got) {
		t.Errorf("%v is better than %v of %s and %s", m, got, brief(a), brief(b))
	}
}

// No matching has more pairs than the best one, and none with as many comes before it.
func TestNothingIsBetter(t *testing.T) {
	all := listsOf(list{"a", "b"}, 4)
	for _, a := range all {
		for _, b := range all {
			for _, m := range matchings(a, b, 0, 0) {
				wantNothingBetter(t, a, b, m)
			}
		}
	}
}

// Matchings of long lists that are made at random, pair by pair.
func TestNothingRandomIsBetter(t *testing.T) {
	r := rand.New(rand.NewPCG(14, 6))
	for range 3000 {
		a := randomList(r, 1+r.IntN(60), "a", "b", "c", "d")
		b := edited(r, a, r.IntN(12))
		var m pairs
		i, k := 0, 0
		for i < len(a) && k < len(b) {
			if a[i] == b[k] && r.IntN(9) > 0 {
				m = append(m, of(i, k)...)
				i, k = i+1, k+1
			} else if r.IntN(2) == 0 {
				i++
			} else {
				k++
			}
		}
		wantNothingBetter(t, a, b, m)
	}
}

// wantExchanged fails unless two lists have as many pairs when they are exchanged.
func wantExchanged(t *testing.T, a, b list) {
	t.Helper()
	if n, k := length(t, a, b), length(t, b, a); n != k {
		t.Errorf("%s and %s: %d, exchanged: %d", brief(a), brief(b), n, k)
	}
	if n, k := distance(t, a, b), distance(t, b, a); n != k {
		t.Errorf("distance of %s and %s: %d, exchanged: %d", brief(a), brief(b), n, k)
	}
}

// wantOneMore fails unless a line in front of two lists is one pair more, in front of those of both.
func wantOneMore(t *testing.T, line string, a, b list) {
	t.Helper()
	front, other := joined(list{line}, a), joined(list{line}, b)
	if n := length(t, a, b); length(t, front, other) != n+1 {
		t.Errorf("%s in front of %s and %s: not %d", brief(line), brief(a), brief(b), n+1)
	}
	want := of(0, 0)
	for _, p := range best(t, a, b) {
		want = append(want, of(p.I+1, p.K+1)...)
	}
	wantAll(t, "a line in front", front, other, want)
	wantLength(t, "a line behind", joined(a, list{line}), joined(b, list{line}), len(want), api.OK)
}

// wantMetric fails unless the distance of two lists is 0 exactly if they are equal, and not greater than by way of another one.
func wantMetric(t *testing.T, a, b, way list) {
	t.Helper()
	d := distance(t, a, b)
	if d < 0 || (d == 0) != slices.Equal(a, b) {
		t.Errorf("distance of %s and %s: %d", brief(a), brief(b), d)
	}
	if by := distance(t, a, way) + distance(t, way, b); d > by {
		t.Errorf("distance of %s and %s: %d, by way of %s: %d", brief(a), brief(b), d, brief(way), by)
	}
}

func TestConsequencesOfShortLists(t *testing.T) {
	all := listsOf(list{"", "a", "b"}, 4)
	for x, a := range all {
		for y, b := range all {
			wantExchanged(t, a, b)
			wantMetric(t, a, b, all[(7*x+11*y)%len(all)])
			for _, line := range []string{"", "a", "c"} {
				wantOneMore(t, line, a, b)
			}
		}
	}
	all = listsOf(list{"a", "b"}, 4)
	for _, a := range all {
		for _, b := range all {
			for _, way := range all {
				wantMetric(t, a, b, way)
			}
		}
	}
}

func TestConsequencesOfLongLists(t *testing.T) {
	r := rand.New(rand.NewPCG(14, 7))
	for range 500 {
		a := randomList(r, 1+r.IntN(59), numbered(1+r.IntN(30))...)
		b, c := edited(r, a, r.IntN(9)), edited(r, a, r.IntN(9))
		wantExchanged(t, a, b)
		wantExchanged(t, b, c)
		wantMetric(t, a, b, c)
		wantMetric(t, b, c, a)
		wantMetric(t, a, slices.Clone(a), b)
		if len(b) < 60 {
			wantOneMore(t, a[r.IntN(len(a))], a, b)
			wantOneMore(t, "another", a, b)
		}
	}
	for _, a := range goodLists() {
		for _, b := range goodLists() {
			wantExchanged(t, a, b)
			for _, c := range goodLists() {
				wantMetric(t, a, b, c)
			}
		}
	}
}

// A list of 59 lines takes one more, and one of 1,998 bytes an empty one.
func TestOneMoreAtTheLimits(t *testing.T) {
	wantOneMore(t, "x", numbered(59), same(59, "x"))
	wantOneMore(t, "", same(59, ""), list{"a"})
	wantOneMore(t, "", filled(30, 1999, 7), filled(59, 1999, 40))
	wantOneMore(t, "x", filled(59, 1998, 0), list{"x"})
	wantErrors(t, "60 lines and one more", same(61, "a"), list{"a"}, api.ErrMany)
}
