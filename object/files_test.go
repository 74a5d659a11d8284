package object_test

import (
	"slices"
	"strings"
	"testing"

	"siding/api"
	"siding/object"
)

// P9.4

// nameOf is the name of the blob of a text.
func nameOf(text string) api.ID { return digest(encoded(blob(text))) }

// linked is a tree that has files with these texts, and the files.
func linked(texts ...string) (api.Object, []api.File) {
	top := tree()
	var l []api.File
	for i, s := range texts {
		path := paths(i, 1)[0]
		top.Tree = append(top.Tree, api.Entry{Path: path, Blob: nameOf(s)})
		l = append(l, file(path, s))
	}
	return top, l
}

func blobs(texts ...string) []api.Object {
	var l []api.Object
	for _, s := range texts {
		l = append(l, blob(s))
	}
	return l
}

// many are n blobs with different texts, none of which is a letter.
func many(n int) []api.Object {
	var l []api.Object
	for i := range n {
		l = append(l, blob(strings.Repeat("many", i+1)))
	}
	return l
}

// some are many blobs and a few others.
func some(n int, texts ...string) []api.Object { return append(many(n), blobs(texts...)...) }

func TestFiles(t *testing.T) {
	top, l := linked("x", "y", "x", "", "z")
	for what, some := range map[string][]api.Object{
		"in order":              blobs("x", "y", "", "z"),
		"in another order":      blobs("z", "", "y", "x"),
		"given twice":           blobs("x", "x", "y", "y", "", "", "z", "z"),
		"given twice, apart":    blobs("z", "y", "x", "", "x", "y", "z", ""),
		"with others":           blobs("a", "x", "b", "y", "c", "", "xx", "z", "\n"),
		"with many others":      append(many(196), blobs("y", "x", "z", "")...),
		"with many others last": append(blobs("y", "x", "z", ""), many(196)...),
	} {
		wantFiles(t, what, top, some, l, api.OK)
	}
	wantFiles(t, "no entries", tree(), blobs("x"), nil, api.OK)
	wantFiles(t, "nothing", tree(), nil, nil, api.OK)
	top, l = linked("", text(2000), feeds(2000, 59), "", text(2000))
	wantFiles(t, "long texts", top, blobs(feeds(2000, 59), text(2000), ""), l, api.OK)
}

// Each order of the blobs, with each one that is missing.
func TestMissingBlobs(t *testing.T) {
	texts := []string{"x", "y", "", "z"}
	top, l := linked("x", "y", "", "z", "x")
	var all func(given, left []string)
	all = func(given, left []string) {
		if len(left) == 0 {
			wantFiles(t, "all", top, blobs(given...), l, api.OK)
		} else {
			wantFiles(t, "missing", top, blobs(given...), nil, api.ErrNone)
			wantFiles(t, "missing, with others", top, some(7, given...), nil, api.ErrNone)
		}
		for i := range left {
			all(append(slices.Clone(given), left[i]), slices.Concat(left[:i], left[i+1:]))
		}
	}
	all(nil, texts)
}

// Names that are almost those of a blob are not there.
func TestNamesThatAlmostMatch(t *testing.T) {
	for i := range 32 {
		for _, bit := range []byte{1, 0x80} {
			d := nameOf("x")
			d[i] ^= bit
			wantFiles(t, "a bit", tree(api.Entry{Path: "a", Blob: d}), blobs("x", "y"), nil, api.ErrNone)
			wantFiles(t, "a bit, behind", tree(api.Entry{Path: "a", Blob: nameOf("x")}, api.Entry{Path: "b", Blob: d}), blobs("x", "y"), nil, api.ErrNone)
		}
	}
	wantFiles(t, "zeros", tree(api.Entry{Path: "a"}), blobs("x", ""), nil, api.ErrNone)
	wantFiles(t, "zeros, and no blobs", tree(api.Entry{Path: "a"}), nil, nil, api.ErrNone)
	wantFiles(t, "the digest of the text alone", tree(api.Entry{Path: "a", Blob: digest("x")}), blobs("x"), nil, api.ErrNone)
	wantFiles(t, "the digest of the text as a value", tree(api.Entry{Path: "a", Blob: digest(data("x"))}), blobs("x"), nil, api.ErrNone)
}

// badBlobs are no blobs: of another kind, or not valid.
func badBlobs() map[string]api.Object {
	return map[string]api.Object{
		"nothing":                {},
		"a tree":                 tree(),
		"a tree with an entry":   tree(entries("a")...),
		"a commit":               commit(api.Commit{}),
		"a commit with a tree":   commit(api.Commit{Tree: id(1)}),
		"the kind 0":             {Kind: 0, Text: []byte("x")},
		"the kind 4":             {Kind: 4, Text: []byte("x")},
		"a tree with a text":     {Kind: 2, Text: []byte("x")},
		"a blob with an entry":   {Kind: 1, Text: []byte("x"), Tree: entries("a")},
		"a blob with a note":     {Kind: 1, Text: []byte("x"), Commit: api.Commit{Note: "n"}},
		"a blob with a tick":     {Kind: 1, Text: []byte("x"), Commit: api.Commit{Tick: 1}},
		"a blob that is long":    blob(text(2001)),
		"a blob with many lines": blob(feeds(60, 60)),
	}
}

// badTrees are no trees: of another kind, or not valid.
func badTrees() map[string]api.Object {
	return map[string]api.Object{
		"nothing":               {},
		"a blob":                blob("x"),
		"an empty blob":         blob(""),
		"a commit":              commit(api.Commit{Tree: id(1)}),
		"an empty commit":       commit(api.Commit{}),
		"the kind 0":            {Kind: 0, Tree: entries("a")},
		"the kind 4":            {Kind: 4, Tree: entries("a")},
		"a blob with an entry":  {Kind: 1, Tree: entries("a")},
		"a tree with a text":    {Kind: 2, Text: []byte("x"), Tree: entries("a")},
		"a tree with a tick":    {Kind: 2, Tree: entries("a"), Commit: api.Commit{Tick: 1}},
		"a path that is none":   tree(entries("a", "b/")...),
		"the same path twice":   tree(entries("a", "a")...),
		"paths not in order":    tree(entries("b", "a")...),
		"too many entries":      tree(entries(paths(0, 13)...)...),
		"very many entries":     tree(make([]api.Entry, 1000)...),
		"an entry with no path": tree(make([]api.Entry, 1)...),
	}
}

func TestBadBlobs(t *testing.T) {
	top, _ := linked("x", "y")
	for what, bad := range badBlobs() {
		for i := range 4 {
			l := slices.Insert(blobs("x", "y", "z"), i, bad)
			wantFiles(t, what, top, l, nil, api.ErrBad)
			wantFiles(t, what+", with no entries", tree(), l, nil, api.ErrBad)
		}
		wantFiles(t, what+", alone", tree(), []api.Object{bad}, nil, api.ErrBad)
		wantFiles(t, what+", as the last of 200", tree(), append(many(199), bad), nil, api.ErrBad)
	}
}

func TestBadTrees(t *testing.T) {
	for what, bad := range badTrees() {
		wantFiles(t, what, bad, nil, nil, api.ErrBad)
		wantFiles(t, what+", with blobs", bad, blobs("", "x", "y"), nil, api.ErrBad)
		for also, blob := range badBlobs() {
			wantFiles(t, what+", and "+also, bad, []api.Object{blob}, nil, api.ErrBad)
		}
	}
}

func TestNumbersOfBlobs(t *testing.T) {
	top, l := linked("x")
	for n := range 260 {
		want, err := l, api.OK
		if n > 199 {
			want, err = nil, api.ErrMany
		}
		wantFiles(t, "many blobs", top, some(n, "x"), want, err)
	}
	wantFiles(t, "200 times the same blob", top, slices.Repeat(blobs("x"), 200), l, api.OK)
	wantFiles(t, "201 times the same blob", top, slices.Repeat(blobs("x"), 201), nil, api.ErrMany)
	wantFiles(t, "200 blobs, and no entries", tree(), many(200), nil, api.OK)
	wantFiles(t, "201 blobs, and no entries", tree(), many(201), nil, api.ErrMany)
	wantFiles(t, "very many blobs", top, make([]api.Object, 100000), nil, api.ErrMany)
}

// Too many blobs come before what is not valid, and this before what is missing.
func TestOrderOfErrors(t *testing.T) {
	missing, _ := linked("x", "missing")
	for what, bad := range badTrees() {
		wantFiles(t, what+", and too many blobs", bad, some(200, "x"), nil, api.ErrMany)
	}
	for what, bad := range badBlobs() {
		wantFiles(t, what+", before too many", missing, append([]api.Object{bad}, many(200)...), nil, api.ErrMany)
		wantFiles(t, what+", behind too many", missing, append(many(200), bad), nil, api.ErrMany)
		wantFiles(t, what+", and a blob is missing", missing, append(blobs("x"), bad), nil, api.ErrBad)
		wantFiles(t, what+", and all blobs are missing", missing, []api.Object{bad}, nil, api.ErrBad)
	}
	wantFiles(t, "too many blobs, and one is missing", missing, some(200, "x"), nil, api.ErrMany)
	wantFiles(t, "200 blobs, and one is missing", missing, some(199, "x"), nil, api.ErrNone)
	wantFiles(t, "a tree that is not valid, and a blob is missing", tree(missing.Tree[1], missing.Tree[0]), blobs("x"), nil, api.ErrBad)
}

// The tree that Tree returns may not stand among the blobs.
func TestTreeAmongItsBlobs(t *testing.T) {
	_, all, _ := object.Tree(files("a", "b"))
	wantFiles(t, "the whole list", all[0], all, nil, api.ErrBad)
	wantFiles(t, "the tree behind", all[0], append(slices.Clone(all[1:]), all[0]), nil, api.ErrBad)
	wantFiles(t, "a blob as the tree", all[1], all[1:], nil, api.ErrBad)
}
