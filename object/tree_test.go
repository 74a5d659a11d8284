package object_test

import (
	"bytes"
	"slices"
	"strings"
	"testing"

	"siding/api"
	"siding/object"
)

// P9.3

// falling are texts of blobs, each of which has a greater name than the next one.
func falling() []string {
	var l []string
	for _, f := range files(paths(0, 12)...) {
		l = append(l, string(f.Text))
	}
	slices.SortFunc(l, func(a, b string) int {
		x, y := digest(encoded(blob(a))), digest(encoded(blob(b)))
		return bytes.Compare(y[:], x[:])
	})
	return l
}

func TestTreeOfNoFiles(t *testing.T) {
	wantTree(t, "no files", nil)
	wantTree(t, "no files", []api.File{})
	d, l, e := object.Tree(nil)
	if want := hexed(t, "78f33eea7288c6955781b29b9d0b32f74ce879b55770b917ee6627ac098d6b11"); d != want || len(l) != 1 || !same(l[0], tree()) || e != api.OK {
		t.Errorf("%x %s %d", d, brief(l), e)
	}
}

func TestTreeOfOneFile(t *testing.T) {
	for _, path := range ordered {
		for _, s := range []string{"", "a", "\n", text(2000), feeds(59, 59), path} {
			wantTree(t, "one file", []api.File{file(path, s)})
		}
	}
}

func TestTreesOfEachSize(t *testing.T) {
	for n := range 300 {
		equal := files(paths(0, n)...)
		for i := range equal {
			equal[i].Text = []byte("x")
		}
		for what, l := range map[string][]api.File{"files": files(paths(0, n)...), "equal texts": equal} {
			if n <= 12 {
				wantTree(t, what, l)
			} else {
				wantNoTree(t, what, l, api.ErrMany)
			}
		}
	}
}

// The greatest trees: all paths, and all texts, are as long as they may be.
func TestGreatestTree(t *testing.T) {
	var l []api.File
	for i, p := range paths(0, 12) {
		l = append(l, file(p+strings.Repeat("/a", 28), strings.Repeat(string(rune('a'+i)), 1941)+strings.Repeat("\n", 59)))
	}
	if len(l[11].Path) != 60 || len(l[11].Text) != 2000 {
		t.Fatal(len(l[11].Path), len(l[11].Text))
	}
	wantTree(t, "the greatest tree", l)
}

// The blobs lie in the order of their names, whatever the order of the files is.
func TestOrderOfBlobs(t *testing.T) {
	var fall, rise []api.File
	for i, s := range falling() {
		fall = append(fall, file(paths(i, 1)[0], s))
		rise = append(rise, file(paths(11-i, 1)[0], s))
	}
	slices.Reverse(rise)
	wantTree(t, "falling names", fall)
	wantTree(t, "rising names", rise)
	_, first, _ := object.Tree(fall)
	_, second, _ := object.Tree(rise)
	if !slices.EqualFunc(first[1:], second[1:], same) || len(first) != 13 {
		t.Error(brief(first), brief(second))
	}
	for i := 2; i < len(first); i++ {
		before, _ := object.Name(first[i-1])
		here, _ := object.Name(first[i])
		if bytes.Compare(before[:], here[:]) >= 0 {
			t.Error(i, before, here)
		}
	}
}

// All ways in which up to five files may have the same texts.
func TestEqualTexts(t *testing.T) {
	some := falling()
	var all func(l []api.File, n int)
	all = func(l []api.File, n int) {
		wantTree(t, "equal texts", l)
		if n == 0 {
			return
		}
		for k := range min(len(l)+1, 4) {
			all(append(slices.Clone(l), file(paths(len(l), 1)[0], some[k])), n-1)
		}
	}
	all(nil, 5)
}

// Texts that are nil and empty are one blob.
func TestEmptyTexts(t *testing.T) {
	l := []api.File{{Path: "a"}, {Path: "b", Text: []byte{}}, {Path: "c", Text: []byte("abc")[:0]}}
	wantTree(t, "empty texts", l)
	if _, got, _ := object.Tree(l); len(got) != 2 {
		t.Error(brief(got))
	}
}

// A file that is not valid, in each place, beside any others.
func TestBadFiles(t *testing.T) {
	for n := 1; n <= 14; n++ {
		for i := range n {
			for what, bad := range map[string]api.File{
				"no path":        {},
				"a bad path":     {Path: paths(i, 1)[0] + "/", Text: []byte("a")},
				"a long path":    {Path: paths(i, 1)[0] + strings.Repeat("a", 57)},
				"a long text":    {Path: paths(i, 1)[0], Text: []byte(text(2001))},
				"too many lines": {Path: paths(i, 1)[0], Text: []byte(feeds(60, 60))},
				"too much":       {Path: "", Text: []byte(text(3000))},
				"too early":      {Path: "a"},
				"too late":       {Path: "z"},
			} {
				l := files(paths(0, n)...)
				l[i] = bad
				err := api.ErrBad
				if n > 12 {
					err = api.ErrMany
				} else if what == "too early" && i == 0 || what == "too late" && i == n-1 {
					wantTree(t, what, l)
					continue
				}
				wantNoTree(t, what, l, err)
			}
		}
	}
	wantNoTree(t, "many files that are none", make([]api.File, 13), api.ErrMany)
	wantNoTree(t, "very many files", make([]api.File, 100000), api.ErrMany)
	wantNoTree(t, "12 files that are none", make([]api.File, 12), api.ErrBad)
}

// A path that is the beginning of another one is no folder: both are files.
func TestPathsWithinPaths(t *testing.T) {
	wantTree(t, "a and a/b", files("a", "a/b", "a/b/c"))
	wantTree(t, "with others between", files("a", "a-b", "a.b", "a/b", "a0", "ab"))
	wantNoTree(t, "a/b and a", files("a/b", "a"), api.ErrBad)
	wantNoTree(t, "in the order of folders", files("a/b", "a.b"), api.ErrBad)
}
