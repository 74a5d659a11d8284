package lcs_test

import (
	"fmt"
	"math"
	"math/rand/v2"
	"slices"
	"strings"
	"testing"

	"siding/api"
	"siding/lcs"
)

// list is a list of lines, whether it is valid or not.
type list = []string

// pairs are pairs of indices, whether they are a matching or not.
type pairs = []api.Match

// extremes are numbers that are no index of a line, among them those whose lowest bits are those of one.
var extremes = []int{math.MinInt, math.MinInt + 1, math.MinInt32, -1 << 32, -1<<32 + 1, -256, -61, -60, -2, -1, 60, 61, 256, 257, 1 << 16, 1<<16 + 1, math.MaxInt32, math.MaxUint32, 1 << 32, 1<<32 + 1, 1<<32 + 2, math.MaxInt - 1, math.MaxInt}

// of are pairs of numbers, the I and the K of each one behind the other.
func of(numbers ...int) pairs {
	var m pairs
	for c := range slices.Chunk(numbers, 2) {
		m = append(m, api.Match{I: c[0], K: c[1]})
	}
	return m
}

// row are n pairs, the first one of which is given, and each of the others is one further on both sides.
func row(n, i, k int) pairs {
	var m pairs
	for at := range n {
		m = append(m, api.Match{I: i + at, K: k + at})
	}
	return m
}

// letters is a list of lines with a letter each.
func letters(s string) list {
	l := list{}
	for i := range len(s) {
		l = append(l, s[i:i+1])
	}
	return l
}

// text has n bytes without a line feed, that differ from their neighbours.
func text(n int) string {
	b := make([]byte, n)
	for i := range b {
		b[i] = 'a' + byte(i*7%26)
	}
	return string(b)
}

// numbered are n lines that all differ.
func numbered(n int) list {
	l := make(list, n)
	for i := range l {
		l[i] = fmt.Sprint(i)
	}
	return l
}

// same are n lines that are the same.
func same(n int, line string) list { return slices.Repeat(list{line}, n) }

// filled are n lines whose text has so many bytes, nearly all of them in one line.
func filled(n, bytes, long int) list {
	l := make(list, n)
	l[long] = text(bytes - (n - 1))
	return l
}

// joined is one list behind the other.
func joined(parts ...list) list { return slices.Concat(parts...) }

// listsOf are all lists of some lines, from 1 to n of them.
func listsOf(some list, n int) []list {
	all := []list{nil}
	for from := 0; n > 0; n-- {
		to := len(all)
		for _, l := range all[from:to] {
			for _, line := range some {
				all = append(all, joined(l, list{line}))
			}
		}
		from = to
	}
	return all[1:]
}

// randomList has n of some lines.
func randomList(r *rand.Rand, n int, some ...string) list {
	l := make(list, n)
	for i := range l {
		l[i] = some[r.IntN(len(some))]
	}
	return l
}

// edited is a valid list that was made of another one by some changes.
func edited(r *rand.Rand, l list, changes int) list {
	l = slices.Clone(l)
	for range changes {
		at := r.IntN(len(l))
		switch r.IntN(4) {
		case 0:
			l[at] = "new"
		case 1:
			l[at] = l[r.IntN(len(l))]
		case 2:
			l = slices.Delete(l, at, min(len(l), at+1+r.IntN(3)))
		default:
			l = slices.Insert(l, at, randomList(r, r.IntN(4), "new", "", l[at])...)
		}
		if len(l) == 0 {
			l = list{"last"}
		}
	}
	return l[:min(60, len(l))]
}

// errorOf is what lines.Join says of a list.
func errorOf(l list) api.Errno {
	var bytes, feeds int
	for _, line := range l {
		bytes += len(line) + 1
		feeds += strings.Count(line, "\n")
	}
	if len(l) > 60 || bytes-1 > 2000 {
		return 4
	}
	if len(l) == 0 || feeds > 0 {
		return 8
	}
	return 0
}

// badLists are lists that are not valid.
func badLists() map[string]list {
	return map[string]list{
		"nil":                           nil,
		"empty":                         {},
		"empty, with room":              numbered(9)[:0],
		"a feed":                        {"\n"},
		"a feed behind":                 {"a", "b\n"},
		"a feed in front":               {"\na", "b"},
		"a feed in the last of 60":      joined(numbered(59), list{"a\nb"}),
		"too many lines":                numbered(61),
		"too many empty lines":          same(61, ""),
		"much too many lines":           numbered(1<<16 + 1),
		"too many bytes":                {text(2001)},
		"too many bytes with the feeds": {text(1000), text(1000)},
		"too many bytes in 60 lines":    filled(60, 2001, 7),
		"too many lines and bytes":      filled(61, 2001, 60),
		"too many lines and a feed":     joined(numbered(60), list{"\n"}),
		"too many bytes and a feed":     {"\n", text(2000)},
		"too many bytes, in one feed":   {text(2000) + "\n"},
	}
}

// goodLists are valid ones.
func goodLists() map[string]list {
	return map[string]list{
		"one line":             {"a"},
		"an empty line":        {""},
		"two lines":            {"a", "b"},
		"60 lines":             numbered(60),
		"60 lines, with room":  numbered(99)[:60],
		"60 full lines":        filled(60, 2000, 30),
		"one line of 2,000":    {text(2000)},
		"the same lines again": same(60, "a"),
	}
}

// isMatching reports whether some pairs are a matching of two lists.
func isMatching(a, b list, m pairs) bool {
	for n, p := range m {
		if !(0 <= p.I && p.I < len(a) && 0 <= p.K && p.K < len(b)) || a[p.I] != b[p.K] {
			return false
		}
		for _, q := range m[:n] {
			if !(q.I < p.I && q.K < p.K) {
				return false
			}
		}
	}
	return true
}

// comesBefore reports whether a matching comes before another one with as many pairs.
func comesBefore(m, n pairs) bool {
	for at := range m {
		if m[at].I != n[at].I {
			return m[at].I < n[at].I
		}
		if m[at].K != n[at].K {
			return m[at].K < n[at].K
		}
	}
	return false
}

// matchings are all those of two lists, of lines from i and from k on.
func matchings(a, b list, i, k int) []pairs {
	all := []pairs{nil}
	for x := i; x < len(a); x++ {
		for y := k; y < len(b); y++ {
			if a[x] != b[y] {
				continue
			}
			for _, m := range matchings(a, b, x+1, y+1) {
				all = append(all, append(of(x, y), m...))
			}
		}
	}
	return all
}

// tried is the best one of all matchings of two lists.
func tried(a, b list) pairs {
	var best pairs
	// Backwards, so that what is found first is not the best one already.
	for _, m := range slices.Backward(matchings(a, b, 0, 0)) {
		if len(m) > len(best) || len(m) == len(best) && comesBefore(m, best) {
			best = m
		}
	}
	return best
}

// counted are the greatest numbers of pairs of the first i lines of a list and the first k of another one.
func counted(a, b list) [61][61]int {
	var n [61][61]int
	for i := range a {
		for k := range b {
			n[i+1][k+1] = max(n[i][k+1], n[i+1][k])
			if a[i] == b[k] {
				n[i+1][k+1] = max(n[i+1][k+1], n[i][k]+1)
			}
		}
	}
	return n
}

// turned is a list from its last line to its first one.
func turned(l list) list {
	l = slices.Clone(l)
	slices.Reverse(l)
	return l
}

// found is the best matching of two lists, each pair of which is the first one behind which there are enough others.
func found(a, b list) pairs {
	n := counted(turned(a), turned(b))
	var m pairs
	i, k := 0, 0
	for left := n[len(a)][len(b)]; left > 0; left-- {
		p := firstOf(a, b, i, k, func(i, k int) bool { return n[len(a)-i-1][len(b)-k-1] == left-1 })
		m = append(m, p)
		i, k = p.I+1, p.K+1
	}
	return m
}

// firstOf is the first pair of equal lines, from i and from k on, that fits.
func firstOf(a, b list, i, k int, fits func(i, k int) bool) api.Match {
	for ; i < len(a); i++ {
		for y := k; y < len(b); y++ {
			if a[i] == b[y] && fits(i, y) {
				return api.Match{I: i, K: y}
			}
		}
	}
	panic("no pair fits")
}

// brief is what something looks like, cut off after a while, because texts may have thousands of bytes.
func brief(x any) string {
	s := fmt.Sprintf("%+q", x)
	return s[:min(len(s), 300)]
}

func wantLength(t *testing.T, what string, a, b list, want int, err api.Errno) {
	t.Helper()
	if got, e := lcs.Length(a, b); got != want || e != err {
		t.Errorf("%s: length of %s and %s: %d %d, want %d %d", what, brief(a), brief(b), got, e, want, err)
	}
}

func wantBest(t *testing.T, what string, a, b list, want pairs, err api.Errno) {
	t.Helper()
	if got, e := lcs.Best(a, b); !slices.Equal(got, want) || e != err {
		t.Errorf("%s: best of %s and %s: %v %d, want %v %d", what, brief(a), brief(b), got, e, want, err)
	}
}

func wantCheck(t *testing.T, what string, a, b list, m pairs, err api.Errno) {
	t.Helper()
	if e := lcs.Check(a, b, m); e != err {
		t.Errorf("%s: check %v of %s and %s: %d, want %d", what, m, brief(a), brief(b), e, err)
	}
}

func wantDistance(t *testing.T, what string, a, b list, want int, err api.Errno) {
	t.Helper()
	if got, e := lcs.Distance(a, b); got != want || e != err {
		t.Errorf("%s: distance of %s and %s: %d %d, want %d %d", what, brief(a), brief(b), got, e, want, err)
	}
}

// wantAll fails unless these pairs are the best matching of two lists, for all functions.
func wantAll(t *testing.T, what string, a, b list, want pairs) {
	t.Helper()
	wantLength(t, what, a, b, len(want), api.OK)
	wantBest(t, what, a, b, want, api.OK)
	wantCheck(t, what, a, b, want, api.OK)
	wantDistance(t, what, a, b, len(a)-len(want)+len(b)-len(want), api.OK)
}

// wantErrors fails unless all functions return an error of two lists.
func wantErrors(t *testing.T, what string, a, b list, err api.Errno) {
	t.Helper()
	wantLength(t, what, a, b, 0, err)
	wantBest(t, what, a, b, nil, err)
	wantDistance(t, what, a, b, 0, err)
	for _, m := range []pairs{nil, of(0, 0), of(-1, 70), of(5, 5, 4, 4), row(60, 0, 0), row(61, 0, 0), row(100, 0, 0)} {
		wantCheck(t, what, a, b, m, err)
	}
}
