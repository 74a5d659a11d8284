package lines_test

import (
	"fmt"
	"math"
	"math/rand/v2"
	"slices"
	"strings"
	"testing"

	"siding/api"
	"siding/lines"
)

// list is a list of lines, whether it is valid or not.
type list = []string

// extremes are numbers that are no index of a line, among them those whose lowest bits are those of one.
var extremes = []int{math.MinInt, math.MinInt + 1, math.MinInt32, -1 << 32, -1<<32 + 1, -256, -61, -60, -2, -1, 61, 62, 256, 257, 1 << 16, 1<<16 + 1, math.MaxInt32, math.MaxUint32, 1 << 32, 1<<32 + 1, 1<<32 + 2, math.MaxInt - 1, math.MaxInt}

// text has n bytes without a line feed, that differ from their neighbours.
func text(n int) string {
	b := make([]byte, n)
	for i := range b {
		b[i] = 'a' + byte(i*7%26)
	}
	return string(b)
}

// feeds are n line feeds.
func feeds(n int) string { return strings.Repeat("\n", n) }

// numbered are n lines that all differ.
func numbered(n int) list {
	l := make(list, n)
	for i := range l {
		l[i] = fmt.Sprint(i)
	}
	return l
}

// same are n lines that are the same.
func same(n int, line string) list { return slices.Repeat(list{line}, n) }

// filled are n lines whose text has so many bytes, nearly all of them in one line.
func filled(n, bytes, long int) list {
	l := make(list, n)
	l[long] = text(bytes - (n - 1))
	return l
}

// joined is one list behind the other.
func joined(parts ...list) list { return slices.Concat(parts...) }

// words are all of some letters, of up to n bytes.
func words(letters string, n int) []string {
	all := []string{""}
	for from := 0; n > 0; n-- {
		to := len(all)
		for _, w := range all[from:to] {
			for i := range letters {
				all = append(all, w+letters[i:i+1])
			}
		}
		from = to
	}
	return all
}

// listsOf are all lists of some lines, up to n of them.
func listsOf(some []string, n int) []list {
	all := []list{nil}
	for from := 0; n > 0; n-- {
		to := len(all)
		for _, l := range all[from:to] {
			for _, line := range some {
				all = append(all, joined(l, list{line}))
			}
		}
		from = to
	}
	return all
}

// randomText has n bytes, of which one in so many is a line feed.
func randomText(r *rand.Rand, n, rare int) string {
	b := make([]byte, n)
	for i := range b {
		if b[i] = byte(r.IntN(256)); b[i] == '\n' || r.IntN(rare) == 0 {
			b[i] = '\n'
		}
	}
	return string(b)
}

// randomList has n lines of few different ones.
func randomList(r *rand.Rand, n int, some ...string) list {
	l := make(list, n)
	for i := range l {
		l[i] = some[r.IntN(len(some))]
	}
	return l
}

// linesOf are the parts between the line feeds of a text, found byte by byte.
func linesOf(text string) list {
	l := list{""}
	for i := range len(text) {
		if text[i] == '\n' {
			l = append(l, "")
		} else {
			l[len(l)-1] += text[i : i+1]
		}
	}
	return l
}

// textOf are lines with a line feed between two of them.
func textOf(l list) string {
	var b []byte
	for i, line := range l {
		if i > 0 {
			b = append(b, '\n')
		}
		b = append(b, line...)
	}
	return string(b)
}

// feedsIn is how many line feeds there are in a text.
func feedsIn(text string) int {
	var n int
	for i := range len(text) {
		if text[i] == '\n' {
			n++
		}
	}
	return n
}

// errorOf is what Join says of a list.
func errorOf(l list) api.Errno {
	text := textOf(l)
	if len(l) > 60 || len(text) > 2000 {
		return 4
	}
	// Each line feed that is not between two lines is in one.
	if len(l) == 0 || feedsIn(text) >= len(l) {
		return 8
	}
	return 0
}

// common are the front and the back of two lists, the greatest numbers of which the definition holds.
func common(a, b list) (front, back int) {
	for n := range min(len(a), len(b)) + 1 {
		if slices.Equal(a[:n], b[:n]) {
			front = n
		}
	}
	for n := range min(len(a), len(b)) + 1 - front {
		if slices.Equal(a[len(a)-n:], b[len(b)-n:]) {
			back = n
		}
	}
	return front, back
}

// replaced is a list of which the lines from one index up to another one are others, and the error of this.
func replaced(l list, from, to int, by list) (list, api.Errno) {
	if e := errorOf(l); e != 0 {
		return nil, e
	}
	if !(0 <= from && from <= to && to <= len(l)) {
		return nil, 2
	}
	for _, line := range by {
		if feedsIn(line) > 0 {
			return nil, 8
		}
	}
	var got list
	for i, line := range l {
		if i == from {
			got = append(got, by...)
		}
		if i < from || i >= to {
			got = append(got, line)
		}
	}
	if from == len(l) {
		got = append(got, by...)
	}
	if e := errorOf(got); e != 0 {
		return nil, e
	}
	return got, 0
}

// brief is what something looks like, cut off after a while, because texts may have thousands of bytes.
func brief(x any) string {
	s := fmt.Sprintf("%+q", x)
	return s[:min(len(s), 200)]
}

// wantText fails unless some bytes are a text with these lines.
func wantText(t *testing.T, what, b string, want list) {
	t.Helper()
	if e := lines.Check([]byte(b)); e != api.OK {
		t.Errorf("%s: check %s: %d", what, brief(b), e)
	}
	if got, e := lines.Split([]byte(b)); !slices.Equal(got, want) || e != api.OK {
		t.Errorf("%s: split %s: %s %d, want %s", what, brief(b), brief(got), e, brief(want))
	}
}

// wantNoText fails unless some bytes are no text.
func wantNoText(t *testing.T, what, b string) {
	t.Helper()
	if e := lines.Check([]byte(b)); e != api.ErrMany {
		t.Errorf("%s: check %s: %d", what, brief(b), e)
	}
	if got, e := lines.Split([]byte(b)); len(got) > 0 || e != api.ErrMany {
		t.Errorf("%s: split %s: %s %d", what, brief(b), brief(got), e)
	}
}

func wantJoin(t *testing.T, what string, l list, want string, err api.Errno) {
	t.Helper()
	if got, e := lines.Join(l); string(got) != want || e != err {
		t.Errorf("%s: join %s: %s %d, want %s %d", what, brief(l), brief(got), e, brief(want), err)
	}
}

func wantCommon(t *testing.T, what string, a, b list, front, back int, err api.Errno) {
	t.Helper()
	f, n, e := lines.Common(a, b)
	if f != front || n != back || e != err {
		t.Errorf("%s: common %s and %s: %d %d %d, want %d %d %d", what, brief(a), brief(b), f, n, e, front, back, err)
	}
}

func wantReplace(t *testing.T, what string, l list, from, to int, by, want list, err api.Errno) {
	t.Helper()
	got, e := lines.Replace(l, from, to, by)
	if !slices.Equal(got, want) || e != err {
		t.Errorf("%s: replace %d to %d of %s by %s: %s %d, want %s %d", what, from, to, brief(l), brief(by), brief(got), e, brief(want), err)
	}
}

// wantReplaced fails unless Replace returns what the chapter says.
func wantReplaced(t *testing.T, what string, l list, from, to int, by list) {
	t.Helper()
	want, err := replaced(l, from, to, by)
	wantReplace(t, what, l, from, to, by, want, err)
}
