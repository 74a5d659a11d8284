package lines_test

import (
	"math/rand/v2"
	"slices"
	"testing"

	"siding/api"
	"siding/lines"
)

// P13.5

// wantThereAndBack fails unless a text is joined from the lines that it is split into, one more than it has line feeds.
func wantThereAndBack(t *testing.T, text string) {
	t.Helper()
	l, e := lines.Split([]byte(text))
	if len(l) != feedsIn(text)+1 || e != api.OK {
		t.Errorf("%s has %s %d", brief(text), brief(l), e)
	}
	wantJoin(t, "there and back", l, text, api.OK)
}

// wantBackAndThere fails unless a list is what its text is split into.
func wantBackAndThere(t *testing.T, l list) {
	t.Helper()
	b, e := lines.Join(l)
	if e != api.OK {
		t.Errorf("%s: %d", brief(l), e)
	}
	wantText(t, "back and there", string(b), l)
}

func TestSplitAndJoin(t *testing.T) {
	for _, text := range words("a\n\r", 7) {
		wantThereAndBack(t, text)
	}
	for _, l := range listsOf([]string{"", "a", "\r", "ab"}, 5)[1:] {
		wantBackAndThere(t, l)
	}
	for _, l := range goodLists() {
		wantBackAndThere(t, l)
		wantThereAndBack(t, textOf(l))
	}
	for n := range 60 {
		wantThereAndBack(t, feeds(n))
		wantBackAndThere(t, same(n+1, ""))
		wantThereAndBack(t, feeds(n)+text(2000-n))
		wantThereAndBack(t, text(2000-n)+feeds(n))
	}
}

func TestSplitAndJoinOfRandom(t *testing.T) {
	r := rand.New(rand.NewPCG(13, 5))
	for range 3000 {
		text := randomText(r, r.IntN(2001), 30+r.IntN(1000))
		if feedsIn(text) < 60 {
			wantThereAndBack(t, text)
		}
		l := randomList(r, 1+r.IntN(60), "", "a", "bc", "\r", randomText(r, r.IntN(30), 1000))
		if errorOf(l) == api.OK {
			wantBackAndThere(t, l)
		}
	}
}

// What is not a text has no lines, and what Join takes is just what Split gives.
func TestSplitAndJoinAgree(t *testing.T) {
	r := rand.New(rand.NewPCG(13, 6))
	for range 2000 {
		l := randomList(r, r.IntN(70), "", "a", text(r.IntN(70)), text(r.IntN(70)))
		if r.IntN(3) == 0 && len(l) > 0 {
			l[r.IntN(len(l))] = randomText(r, r.IntN(9), 3)
		}
		_, e := lines.Join(l)
		split, f := lines.Split([]byte(textOf(l)))
		if (e == api.OK) != (f == api.OK && slices.Equal(split, l)) {
			t.Errorf("join %s: %d, split: %s %d", brief(l), e, brief(split), f)
		}
	}
}

// wantApart fails unless two lists differ next to what they have in common, and are the same there.
func wantApart(t *testing.T, a, b list) {
	t.Helper()
	front, back, e := lines.Common(a, b)
	if front < 0 || back < 0 || front+back > min(len(a), len(b)) || e != api.OK {
		t.Fatalf("common %s and %s: %d %d %d", brief(a), brief(b), front, back, e)
	}
	restA, restB := a[front:len(a)-back], b[front:len(b)-back]
	if !slices.Equal(a[:front], b[:front]) || !slices.Equal(a[len(a)-back:], b[len(b)-back:]) {
		t.Errorf("common %s and %s: %d %d, and they differ there", brief(a), brief(b), front, back)
	}
	if len(restA) > 0 && len(restB) > 0 && (restA[0] == restB[0] || restA[len(restA)-1] == restB[len(restB)-1]) {
		t.Errorf("common %s and %s: %d %d, and they have more", brief(a), brief(b), front, back)
	}
	if same := slices.Equal(a, b); same != (len(restA)+len(restB) == 0) || same && back > 0 {
		t.Errorf("common %s and %s: %d %d, but the same: %t", brief(a), brief(b), front, back, same)
	}
	// What is between makes the one list of the other one.
	wantReplace(t, "what is between", a, front, len(a)-back, restB, b, api.OK)
	wantReplace(t, "what is between, back", b, front, len(b)-back, restA, a, api.OK)
}

func TestApart(t *testing.T) {
	all := listsOf([]string{"", "a"}, 6)[1:]
	for _, a := range all {
		for _, b := range all {
			wantApart(t, a, b)
		}
	}
	for _, a := range goodLists() {
		for _, b := range goodLists() {
			wantApart(t, a, b)
		}
	}
}

func TestApartOfRandom(t *testing.T) {
	r := rand.New(rand.NewPCG(13, 7))
	for range 5000 {
		a := randomList(r, 1+r.IntN(60), "a", "a", "a", "", "b")
		wantApart(t, a, randomList(r, 1+r.IntN(60), "a", "a", "a", "", "b"))
		from := r.IntN(len(a))
		to := from + 1 + r.IntN(len(a)-from)
		wantApart(t, a, a[from:to])
		wantApart(t, a, joined(a[:from], a[to-1:]))
		b := slices.Clone(a)
		b[from] = "c"
		wantApart(t, a, b)
	}
}

// Lines that are replaced by what was there stay.
func TestReplaceByTheSame(t *testing.T) {
	for _, l := range goodLists() {
		for from := range len(l) + 1 {
			for to := from; to <= len(l); to++ {
				wantReplace(t, "the same", l, from, to, l[from:to], l, api.OK)
			}
		}
	}
	for _, l := range listsOf([]string{"", "a", "b"}, 5)[1:] {
		for from := range len(l) + 1 {
			for to := from; to <= len(l); to++ {
				wantReplace(t, "the same", l, from, to, slices.Clone(l[from:to]), l, api.OK)
			}
		}
	}
}

// What was replaced can be put back, and what is put in can be taken out.
func TestReplaceThereAndBack(t *testing.T) {
	r := rand.New(rand.NewPCG(13, 8))
	for range 3000 {
		l := randomList(r, 1+r.IntN(60), "", "a", "b", "c")
		from := r.IntN(len(l) + 1)
		to := from + r.IntN(len(l)-from+1)
		by := randomList(r, r.IntN(60-len(l)+to-from+1), "", "x", "y")
		got, e := lines.Replace(l, from, to, by)
		if len(l)-(to-from)+len(by) == 0 {
			continue
		}
		if e != api.OK || len(got) != len(l)-(to-from)+len(by) {
			t.Fatal(brief(l), from, to, brief(by), brief(got), e)
		}
		wantReplace(t, "back", got, from, from+len(by), l[from:to], l, api.OK)
	}
}
