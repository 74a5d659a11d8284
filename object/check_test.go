package object_test

import (
	"slices"
	"strings"
	"testing"

	"siding/api"
	"siding/object"
)

// P9.1, P9.2

// The objects of the chapter and others, with all of their bytes and their names.
func TestLiteralObjects(t *testing.T) {
	x := hexed(t, "ec0447e09016244d28bb7334bc5829bc571bf622468f43bbff38e2a08e8d3d89")
	both := hexed(t, "a9bea9cb76e49004adf3ad27e31c6c0a7011560c3e92afb01e3071d3c73b95fd")
	none := hexed(t, "b158719f9e44475d45eeddc448d62b1e031400d954605a6a88e5ee1d7ab394b7")
	xs, boths, nones := string(x[:]), string(both[:]), string(none[:])
	for _, c := range []struct {
		what, b, digits string
		o               api.Object
	}{
		{"the blob a", "\x03\x02\x01\x02\x02\x01a", "cecdea2eff5995375314fea3a1c9b11d0e735d26026929399befa90a45f74fbf", blob("a")},
		{"the blob x", "\x03\x02\x01\x02\x02\x01x", "ec0447e09016244d28bb7334bc5829bc571bf622468f43bbff38e2a08e8d3d89", blob("x")},
		{"the empty blob", "\x03\x02\x01\x02\x02\x00", "9693992a64107e1306f47fa06aecb998ec524f24c3d56e74a7b2ced0fc368444", blob("")},
		{"the empty tree", "\x03\x02\x01\x04\x03\x00", "78f33eea7288c6955781b29b9d0b32f74ce879b55770b917ee6627ac098d6b11", tree()},
		{"a tree with the same blob twice", "\x03\x02\x01\x04\x03\x02\x03\x02\x02\x01a\x02\x20" + xs + "\x03\x02\x02\x01b\x02\x20" + xs,
			"a9bea9cb76e49004adf3ad27e31c6c0a7011560c3e92afb01e3071d3c73b95fd", tree(api.Entry{Path: "a", Blob: x}, api.Entry{Path: "b", Blob: x})},
		{"a commit of nothing", "\x03\x05\x01\x06\x02\x20" + strings.Repeat("\x00", 32) + "\x03\x00\x02\x00\x01\x00",
			"b158719f9e44475d45eeddc448d62b1e031400d954605a6a88e5ee1d7ab394b7", commit(api.Commit{})},
		{"a commit with a parent", "\x03\x05\x01\x06\x02\x20" + boths + "\x03\x01\x02\x20" + nones + "\x02\x06first\n\x01\xd8\x04",
			"0760422f7bfd0fbe64b82b77fbe0f29d4a893452029fc6c3617aaa3ebabc1794", commit(api.Commit{Tree: both, Parents: []api.ID{none}, Note: "first\n", Tick: 300})},
	} {
		wantObject(t, c.what, c.o, c.b)
		wantName(t, c.what, c.o, hexed(t, c.digits), api.OK)
	}
}

// What Blob, Commit and Tree say of the literal objects.
func TestLiteralNames(t *testing.T) {
	x := hexed(t, "ec0447e09016244d28bb7334bc5829bc571bf622468f43bbff38e2a08e8d3d89")
	if got, e := object.Blob([]byte("x")); got != x || e != api.OK {
		t.Errorf("%x %d", got, e)
	}
	none := hexed(t, "b158719f9e44475d45eeddc448d62b1e031400d954605a6a88e5ee1d7ab394b7")
	if got, e := object.Commit(api.Commit{}); got != none || e != api.OK {
		t.Errorf("%x %d", got, e)
	}
	both := hexed(t, "a9bea9cb76e49004adf3ad27e31c6c0a7011560c3e92afb01e3071d3c73b95fd")
	if got, l, e := object.Tree([]api.File{file("a", "x"), file("b", "x")}); got != both || len(l) != 2 || e != api.OK {
		t.Errorf("%x %s %d", got, brief(l), e)
	}
}

func TestEachKind(t *testing.T) {
	for kind := range 256 {
		for what, o := range map[string]api.Object{"text": blob("ab\n"), "tree": tree(entries("a", "b")...), "commit": commit(api.Commit{Tree: id(1), Parents: []api.ID{id(2)}, Note: "n", Tick: 7}), "nothing": {}} {
			own := kind >= 1 && kind <= 3 && (kind == int(o.Kind) || what == "nothing")
			o.Kind = uint8(kind)
			if own {
				wantObject(t, what, o, encoded(o))
			} else {
				wantBad(t, what, o)
			}
		}
	}
}

// What does not belong to a kind, in all combinations.
func TestWhatBelongsToAKind(t *testing.T) {
	own := []int{0, 1, 2, 4 + 8 + 16 + 32, 0}
	for kind, belongs := range own {
		for bits := range 64 {
			o := api.Object{Kind: uint8(kind)}
			if bits&1 > 0 {
				o.Text = []byte{0}
			}
			if bits&2 > 0 {
				o.Tree = []api.Entry{{Path: "a"}}
			}
			if bits&4 > 0 {
				o.Commit.Tree[bits%32] = 1
			}
			if bits&8 > 0 {
				o.Commit.Parents = []api.ID{{}}
			}
			if bits&16 > 0 {
				o.Commit.Note = "\x00"
			}
			if bits&32 > 0 {
				o.Commit.Tick = 1
			}
			if kind >= 1 && kind <= 3 && bits&^belongs == 0 {
				wantObject(t, "belongs", o, encoded(o))
			} else {
				wantBad(t, "does not belong", o)
			}
		}
	}
}

// What does not belong to a kind counts also if it is not valid itself, or below 0.
func TestWhatDoesNotBelong(t *testing.T) {
	for _, kind := range []uint8{1, 2} {
		for _, n := range extremes {
			wantBad(t, "a tick", api.Object{Kind: kind, Commit: api.Commit{Tick: n}})
		}
		for i := range 32 {
			o := api.Object{Kind: kind}
			o.Commit.Tree[i] = 0x80
			wantBad(t, "a tree of a commit", o)
		}
		wantBad(t, "equal parents", api.Object{Kind: kind, Commit: api.Commit{Parents: make([]api.ID, 2)}})
		wantBad(t, "a long note", api.Object{Kind: kind, Commit: api.Commit{Note: text(500)}})
	}
	for _, kind := range []uint8{1, 3} {
		wantBad(t, "an entry without a path", api.Object{Kind: kind, Tree: make([]api.Entry, 1)})
		wantBad(t, "many entries", api.Object{Kind: kind, Tree: make([]api.Entry, 100)})
	}
	for _, kind := range []uint8{2, 3} {
		wantBad(t, "a long text", api.Object{Kind: kind, Text: []byte(text(5000))})
		wantBad(t, "a line feed", api.Object{Kind: kind, Text: []byte("\n")})
	}
}

// texts are texts, and whether they are valid.
func texts() map[string]bool {
	return map[string]bool{
		"":                         true,
		"\n":                       true,
		"a\nb":                     true,
		"\r":                       true,
		"\x00":                     true,
		"\xff\xfe":                 true,
		"\u2028\u0085":             true,
		"\x03\x02\x01\x02\x02\x00": true,
		strings.Repeat("\r", 60):   true,
		strings.Repeat("\v", 2000): true,
		text(1999):                 true,
		text(2000):                 true,
		text(2001):                 false,
		text(2256):                 false,
		text(4000):                 false,
		text(100000):               false,
		feeds(58, 58):              true,
		feeds(59, 59):              true,
		feeds(60, 60):              false,
		feeds(61, 61):              false,
		feeds(256, 256):            false,
		feeds(300, 59):             true,
		feeds(300, 60):             false,
		feeds(1999, 59):            true,
		feeds(2000, 59):            true,
		feeds(2000, 60):            false,
		feeds(2000, 2000):          false,
		feeds(2001, 59):            false,
		feeds(2001, 60):            false,
		"\n" + feeds(58, 58):       true,
		"\n" + feeds(59, 59):       false,
		strings.Repeat("a\n", 59):  true,
		strings.Repeat("a\n", 60):  false,
		strings.Repeat("\na", 59):  true,
		strings.Repeat("\na", 60):  false,
	}
}

func TestTexts(t *testing.T) {
	for s, ok := range texts() {
		o := blob(s)
		if ok {
			wantObject(t, "text", o, encoded(o))
			wantTree(t, "text", []api.File{file("a", s)})
			wantTree(t, "text behind another one", []api.File{file("a", "x"), file("b", s)})
			continue
		}
		wantBad(t, "text", o)
		wantForm(t, "text", encoded(o))
		wantNoTree(t, "text", []api.File{file("a", s)}, api.ErrBad)
		wantNoTree(t, "text behind another one", []api.File{file("a", "x"), file("b", s)}, api.ErrBad)
		wantNoTree(t, "text before another one", []api.File{file("a", s), file("b", "x")}, api.ErrBad)
	}
}

func TestTextsOfEachLength(t *testing.T) {
	for n := range 2010 {
		if n > 300 && n < 1990 && n%97 > 0 {
			continue
		}
		o := blob(text(n))
		if n <= 2000 {
			wantObject(t, "length", o, encoded(o))
		} else {
			wantBad(t, "length", o)
			wantForm(t, "length", encoded(o))
		}
	}
}

// wantPath fails unless a path is valid, or not, wherever one is taken.
func wantPath(t *testing.T, path string, ok bool) {
	t.Helper()
	x := digest(encoded(blob("x")))
	for what, l := range map[string][]api.File{
		"the path":              {file(path, "x")},
		"the path behind":       {file("-", "x"), file(path, "x")},
		"the path before":       {file(path, "x"), file("zz", "x")},
		"the path between both": {file("-", "x"), file(path, "x"), file("zz", "x")},
	} {
		o := tree()
		for _, f := range l {
			o.Tree = append(o.Tree, api.Entry{Path: f.Path, Blob: x})
		}
		if ok {
			wantObject(t, what, o, encoded(o))
			wantTree(t, what, l)
			continue
		}
		wantBad(t, what, o)
		wantForm(t, what, encoded(o))
		wantNoTree(t, what, l, api.ErrBad)
	}
}

func TestPaths(t *testing.T) {
	for _, p := range []string{
		"a", "z", "A", "Z", "0", "9", "a/b", "a/b/c", ".a", "a.", "..a", "a..", "a..b", ".a.", "...", "....", "a/.b", "a/b.", "a/..b", "a/...", ".../a", "_", "__", "_/_", "a-b",
		"a/-", "README.md", "Ab_9-c.D/e", "a.b/c.d", "a/a/a", "a/b/c/d/e/f/g/h/i/j", ".-", "._", "-.", ".0", "--", "a/.a/a", "con", "a./b", "a../b",
		strings.Repeat("a", 59), strings.Repeat("a", 60), strings.Repeat(".", 60), strings.Repeat("a/", 29) + "bb", strings.Repeat("abc/", 14) + "defg",
	} {
		if p <= "-" || p >= "zz" {
			t.Fatal(p, "does not lie between the other paths")
		}
		wantPath(t, p, true)
	}
	for _, p := range []string{
		"", ".", "..", "/", "//", "/a", "//a", "a/", "a//", "a//b", "a/b/", "a//b/c", "a/b//c", "./a", "../a", "a/.", "a/..", "a/./b", "a/../b", "a/b/.", "a/b/..", "./.", "../..", ".//a", "/.", "/..", "./", "../",
		"a b", " a", "a ", "a\tb", "a\n", "\na", "a\x00", "\x00", "a\\b", "a:b", "a*", "a?", "~", "~a", "a+b", "a,b", "a@b", "a`", "a{", "a[", "a/b c", "a b/c", "a/\x00", "a%2f", "é", "aé", "Ａ", "\u0131", "\u017f", "\u212a", "\u0661", "a\u00a0b", "a\u2044b", "a\uff0fb", "\ufffd", "\xff", "a\x80", "\xe1", "a\xcc", "\U0001d7d8", "a/é/b",
		strings.Repeat("a", 61), strings.Repeat("a", 316), strings.Repeat("a", 100000), strings.Repeat("a/", 30), strings.Repeat("a/", 30) + "b", strings.Repeat("/", 60), strings.Repeat("a", 59) + "/", "/" + strings.Repeat("a", 59), strings.Repeat("é", 30),
	} {
		wantPath(t, p, false)
	}
}

// Each byte in each place of a path, and the runes above them.
func TestBytesOfPaths(t *testing.T) {
	const letters = "abcdefghijklmnopqrstuvwxyzABCDEFGHIJKLMNOPQRSTUVWXYZ0123456789-_."
	check := func(s string) {
		for _, p := range []string{"a" + s, "a" + s + "b", "a/" + s + "b", "a/b" + s, "a" + s + "/b", "a/" + s} {
			o := tree(entries(p)...)
			if isPath(p) != (strings.Contains(letters, s) && p != "a/.") && s != "/" {
				t.Fatal(p)
			}
			if isPath(p) {
				wantObject(t, "letter", o, encoded(o))
			} else {
				wantBad(t, "letter", o)
				wantForm(t, "letter", encoded(o))
			}
		}
	}
	for c := range 256 {
		check(string([]byte{byte(c)}))
	}
	for c := range rune(0x250) {
		check(string(c))
	}
	for c := range rune(256) {
		check(string('a' + (c+1)*256))
	}
}

// ordered are paths of which each one is less than the next one.
var ordered = []string{
	"-", "-a", ".a", "0", "00", "1", "10", "2", "A", "A/b", "B", "Z", "Z0", "_", "_a", "a", "a-", "a-b", "a.", "a..b", "a.b", "a/-", "a/.b", "a/a", "a/a/a", "a/aa", "a/b", "a/b-c", "a/b.c", "a/b/c", "a/b0", "a/bA", "a0", "aA", "a_", "aa", "aa/a", "ab", "b", "b/a", "z",
}

func TestOrderOfPaths(t *testing.T) {
	for i, a := range ordered {
		for k, b := range ordered {
			o, l := tree(entries(a, b)...), files(a, b)
			if i < k {
				wantObject(t, a+", "+b, o, encoded(o))
				wantTree(t, a+", "+b, l)
				continue
			}
			wantBad(t, a+", "+b, o)
			wantForm(t, a+", "+b, encoded(o))
			wantNoTree(t, a+", "+b, l, api.ErrBad)
		}
	}
}

// Two paths that are exchanged, or the same, in each place of a tree of each size.
func TestPathsOutOfOrder(t *testing.T) {
	for n := range 13 {
		for i := range n {
			for k := range i {
				exchanged, twice := paths(0, n), paths(0, n)
				exchanged[i], exchanged[k] = exchanged[k], exchanged[i]
				twice[i] = twice[k]
				for what, l := range map[string][]string{"exchanged": exchanged, "twice": twice} {
					o := tree(entries(l...)...)
					wantBad(t, what, o)
					wantForm(t, what, encoded(o))
					wantNoTree(t, what, files(l...), api.ErrBad)
				}
			}
		}
	}
	moved := append(paths(1, 11), "p000")
	wantBad(t, "the first one behind", tree(entries(moved...)...))
	wantNoTree(t, "the first one behind", files(moved...), api.ErrBad)
}

// The names that entries have do not matter.
func TestBlobsOfEntries(t *testing.T) {
	for _, d := range []api.ID{{}, id(0), id(200), digest("x"), {31: 1}, {0: 255}} {
		o := tree(api.Entry{Path: "a", Blob: d}, api.Entry{Path: "b", Blob: id(5)}, api.Entry{Path: "c", Blob: d})
		wantObject(t, "blob", o, encoded(o))
	}
}

func TestSizesOfTrees(t *testing.T) {
	for n := range 300 {
		o := tree(entries(paths(0, n)...)...)
		if n <= 12 {
			wantObject(t, "size", o, encoded(o))
			continue
		}
		wantBad(t, "size", o)
		wantForm(t, "size", encoded(o))
	}
	var long []string
	for _, p := range paths(0, 12) {
		long = append(long, p+strings.Repeat("/a", 28))
	}
	o := tree(entries(long...)...)
	wantObject(t, "the greatest tree", o, encoded(o))
}

// commits are commits, and whether they are valid.
func commits() map[string]struct {
	c  api.Commit
	ok bool
} {
	type one = struct {
		c  api.Commit
		ok bool
	}
	a, b, c := id(1), id(2), id(3)
	parents := func(ok bool, l ...api.ID) one { return one{api.Commit{Tree: a, Parents: l}, ok} }
	note := func(ok bool, s string) one { return one{api.Commit{Tree: a, Note: s}, ok} }
	all := map[string]one{
		"nothing":                          {api.Commit{}, true},
		"a tree":                           parents(true),
		"a parent":                         parents(true, b),
		"two parents":                      parents(true, b, c),
		"two parents in the other order":   parents(true, c, b),
		"the tree as a parent":             parents(true, a),
		"the tree as one of two parents":   parents(true, b, a),
		"a parent of zeros":                parents(true, api.ID{}),
		"a parent of zeros before another": parents(true, api.ID{}, b),
		"a parent of zeros behind another": parents(true, b, api.ID{}),
		"parents that differ at the end":   parents(true, api.ID{}, api.ID{31: 1}),
		"parents that differ at first":     parents(true, api.ID{0: 1}, api.ID{}),
		"the same parent twice":            parents(false, b, b),
		"twice the tree as a parent":       parents(false, a, a),
		"two parents of zeros":             parents(false, api.ID{}, api.ID{}),
		"three parents":                    parents(false, a, b, c),
		"three parents, two are the same":  parents(false, b, b, c),
		"three parents, the last is again": parents(false, b, c, b),
		"three times the same parent":      parents(false, b, b, b),
		"a thousand parents":               parents(false, make([]api.ID, 1000)...),
		"258 parents":                      parents(false, slices.Repeat([]api.ID{a, b}, 129)...),
		"a line feed":                      note(true, "\n"),
		"a note of many lines":             note(true, strings.Repeat("\n", 200)),
		"a note of any bytes":              note(true, "\x00\xff\xfe\n\r"+text(190)),
		"a note of a letter":               note(true, "é"),
		"a note with 100 letters":          note(true, strings.Repeat("é", 100)),
		"a note of 199 bytes":              note(true, text(199)),
		"a note of 200 bytes":              note(true, text(200)),
		"a note of 201 bytes":              note(false, text(201)),
		"a note with 101 letters":          note(false, strings.Repeat("é", 101)),
		"a note of 202 bytes":              note(false, text(202)),
		"a note of 456 bytes":              note(false, text(456)),
		"a note of 10,000 bytes":           note(false, text(10000)),
		"all at once":                      {api.Commit{Tree: a, Parents: []api.ID{b, c}, Note: text(200), Tick: 1000000}, true},
		"all at once, one byte more":       {api.Commit{Tree: a, Parents: []api.ID{b, c}, Note: text(201), Tick: 1000000}, false},
		"all at once, one tick more":       {api.Commit{Tree: a, Parents: []api.ID{b, c}, Note: text(200), Tick: 1000001}, false},
		"all at once, one tick less":       {api.Commit{Tree: a, Parents: []api.ID{b, c}, Note: text(200), Tick: -1}, false},
	}
	for _, n := range []int{0, 1, 2, 63, 64, 255, 256, 300, 8191, 8192, 65536, 999999, 1000000} {
		all["the tick "+number(int64(n))] = one{api.Commit{Tick: n}, true}
	}
	for _, n := range extremes {
		all["the tick "+number(int64(n))] = one{api.Commit{Tick: n}, false}
	}
	return all
}

func TestCommits(t *testing.T) {
	for what, c := range commits() {
		o := commit(c.c)
		if c.ok {
			wantObject(t, what, o, encoded(o))
		} else {
			wantBad(t, what, o)
			wantForm(t, what, encoded(o))
		}
	}
}
