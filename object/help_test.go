package object_test

import (
	"bytes"
	"crypto/sha256"
	"encoding/binary"
	"encoding/hex"
	"fmt"
	"math"
	"math/rand/v2"
	"regexp"
	"slices"
	"strings"
	"testing"

	"siding/api"
	"siding/object"
)

// extremes are numbers that are no ticks, among them those whose lowest bits are those of one.
var extremes = []int{math.MinInt, math.MinInt + 1, math.MinInt32, -1 << 32, -api.MaxTick, -2, -1, api.MaxTick + 1, api.MaxTick + 2, math.MaxInt32, math.MaxUint32, 1 << 32, 1<<32 + 5, math.MaxInt - 1, math.MaxInt}

func blob(text string) api.Object { return api.Object{Kind: api.ObjBlob, Text: []byte(text)} }

func tree(entries ...api.Entry) api.Object { return api.Object{Kind: api.ObjTree, Tree: entries} }

func commit(c api.Commit) api.Object { return api.Object{Kind: api.ObjCommit, Commit: c} }

func file(path, text string) api.File { return api.File{Path: path, Text: []byte(text)} }

// id is a name of which all bytes differ.
func id(n int) api.ID {
	var d api.ID
	for i := range d {
		d[i] = byte(n + 7*i)
	}
	return d
}

// entries have these paths, and a name of their own each.
func entries(paths ...string) []api.Entry {
	var l []api.Entry
	for i, p := range paths {
		l = append(l, api.Entry{Path: p, Blob: id(i)})
	}
	return l
}

// files have these paths, and a text of their own each.
func files(paths ...string) []api.File {
	var l []api.File
	for i, p := range paths {
		l = append(l, file(p, strings.Repeat("x", i)))
	}
	return l
}

// paths are n paths in their order, without the first ones.
func paths(first, n int) []string {
	var l []string
	for i := range n {
		l = append(l, fmt.Sprintf("p%03d", first+i))
	}
	return l
}

// text has n bytes, some of which are no letters, and no line feed.
func text(n int) string {
	var b strings.Builder
	for i := range n {
		c := byte(i*37 + i/256 + 1)
		if c == '\n' {
			c = 0
		}
		b.WriteByte(c)
	}
	return b.String()
}

// feeds is a text of n bytes that ends with some line feeds.
func feeds(n, lines int) string { return text(n-lines) + strings.Repeat("\n", lines) }

// number, data and list are the bytes of values, made with Go's own library.

func number(n int64) string { return "\x01" + string(binary.AppendVarint(nil, n)) }

func data(s string) string { return "\x02" + string(binary.AppendUvarint(nil, uint64(len(s)))) + s }

func list(parts ...string) string {
	return "\x03" + string(binary.AppendUvarint(nil, uint64(len(parts)))) + strings.Join(parts, "")
}

// name is a name as bytes.
func name(d api.ID) string { return data(string(d[:])) }

// encoded are the bytes of an object, whether it is valid or not.
func encoded(o api.Object) string {
	var parts []string
	switch o.Kind {
	case 1:
		return list(number(1), data(string(o.Text)))
	case 2:
		for _, e := range o.Tree {
			parts = append(parts, list(data(e.Path), name(e.Blob)))
		}
		return list(number(2), list(parts...))
	}
	for _, p := range o.Commit.Parents {
		parts = append(parts, name(p))
	}
	return list(number(int64(o.Kind)), name(o.Commit.Tree), list(parts...), data(o.Commit.Note), number(int64(o.Commit.Tick)))
}

func digest(b string) api.ID { return sha256.Sum256([]byte(b)) }

// hexed is a name of which all digits to the base 16 are given.
func hexed(t *testing.T, digits string) api.ID {
	t.Helper()
	b, err := hex.DecodeString(digits)
	if err != nil || len(b) != 32 {
		t.Fatal(digits, err)
	}
	return api.ID(b)
}

var (
	pathForm = regexp.MustCompile(`^[a-zA-Z0-9._-]+(/[a-zA-Z0-9._-]+)*$`)
	dotsForm = regexp.MustCompile(`(^|/)\.\.?(/|$)`)
)

func isPath(s string) bool { return len(s) < 61 && pathForm.MatchString(s) && !dotsForm.MatchString(s) }

// isValid is the chapter's definition of an object, written in another way.
func isValid(o api.Object) bool {
	bare := api.Object{Kind: o.Kind}
	switch o.Kind {
	case 1:
		bare.Text = o.Text
		if len(o.Text) > 2000 || len(strings.Split(string(o.Text), "\n")) > 60 {
			return false
		}
	case 2:
		bare.Tree = o.Tree
		if len(o.Tree) > 12 {
			return false
		}
		for i, e := range o.Tree {
			if !isPath(e.Path) || slices.ContainsFunc(o.Tree[:i], func(before api.Entry) bool { return before.Path >= e.Path }) {
				return false
			}
		}
	case 3:
		c := o.Commit
		bare.Commit = c
		if len(c.Parents) > 2 || len(c.Parents) == 2 && c.Parents[0] == c.Parents[1] || len(c.Note) > 200 || c.Tick < 0 || c.Tick > 1000000 {
			return false
		}
	default:
		return false
	}
	return same(o, bare)
}

// input takes bytes apart, without the lower layers; bad means that something was missing.
type input struct {
	rest string
	bad  bool
}

// head takes a byte that has to be the kind of a value, and the number behind it.
func (r *input) head(kind byte) uint64 {
	if r.bad || r.rest == "" || r.rest[0] != kind {
		r.bad = true
		return 0
	}
	n, used := binary.Uvarint([]byte(r.rest[1:]))
	if used <= 0 {
		r.bad = true
		return 0
	}
	r.rest = r.rest[1+used:]
	return n
}

func (r *input) number() int64 {
	n := r.head(1)
	return int64(n>>1) ^ -int64(n&1)
}

func (r *input) data() string {
	n := r.head(2)
	if r.bad || n > uint64(len(r.rest)) {
		r.bad = true
		return ""
	}
	s := r.rest[:n]
	r.rest = r.rest[n:]
	return s
}

func (r *input) name() api.ID {
	s := r.data()
	if len(s) != 32 {
		r.bad = true
		return api.ID{}
	}
	return api.ID([]byte(s))
}

// begin takes the beginning of a list that has to have n elements.
func (r *input) begin(n uint64) {
	if r.head(3) != n {
		r.bad = true
	}
}

// parsed is the object with some bytes, if there is one.
func parsed(b string) (api.Object, bool) {
	r := &input{rest: b}
	length := r.head(3)
	kind := r.number()
	o := api.Object{Kind: uint8(kind)}
	switch {
	case kind == 1 && length == 2:
		o.Text = []byte(r.data())
	case kind == 2 && length == 2:
		for n := r.head(3); n > 0 && !r.bad; n-- {
			r.begin(2)
			path := r.data()
			o.Tree = append(o.Tree, api.Entry{Path: path, Blob: r.name()})
		}
	case kind == 3 && length == 5:
		o.Commit.Tree = r.name()
		for n := r.head(3); n > 0 && !r.bad; n-- {
			o.Commit.Parents = append(o.Commit.Parents, r.name())
		}
		o.Commit.Note = r.data()
		o.Commit.Tick = int(r.number())
	default:
		return api.Object{}, false
	}
	if r.bad || r.rest != "" || encoded(o) != b || !isValid(o) {
		return api.Object{}, false
	}
	return o, true
}

func same(a, b api.Object) bool {
	return a.Kind == b.Kind && bytes.Equal(a.Text, b.Text) && slices.Equal(a.Tree, b.Tree) && sameCommit(a.Commit, b.Commit)
}

func sameCommit(a, b api.Commit) bool {
	return a.Tree == b.Tree && slices.Equal(a.Parents, b.Parents) && a.Note == b.Note && a.Tick == b.Tick
}

func sameFile(a, b api.File) bool { return a.Path == b.Path && bytes.Equal(a.Text, b.Text) }

// randomObject is a valid object with few parts, so that many of them are close to each other.
func randomObject(r *rand.Rand) api.Object {
	some := func() api.ID { return id(r.IntN(3)) }
	switch r.IntN(3) {
	case 0:
		return blob(randomText(r))
	case 1:
		var l []api.Entry
		for _, f := range randomFiles(r, 3) {
			l = append(l, api.Entry{Path: f.Path, Blob: some()})
		}
		return tree(l...)
	}
	c := api.Commit{Tree: some(), Note: randomText(r), Tick: r.IntN(3)}
	for _, n := range r.Perm(3)[:r.IntN(3)] {
		c.Parents = append(c.Parents, id(n))
	}
	return commit(c)
}

func randomText(r *rand.Rand) string {
	var b strings.Builder
	for range r.IntN(4) {
		b.WriteByte("\x00\x01\x02a\n"[r.IntN(5)])
	}
	return b.String()
}

// randomFiles are at most that many files with few different paths and texts.
func randomFiles(r *rand.Rand, most int) []api.File {
	some := []string{"-", "A", "a", "a-b", "a.b", "a/b", "a/b/c", "a0", "aa", "b", "b/a", "b/a.", "c"}
	var l []api.File
	for _, n := range slices.Sorted(slices.Values(r.Perm(len(some))[:r.IntN(most+1)])) {
		l = append(l, file(some[n], randomText(r)))
	}
	return l
}

// brief is what something looks like, cut off after a while, because objects may have thousands of bytes.
func brief(x any) string {
	s := fmt.Sprintf("%+q", fmt.Sprint(x))
	return s[:min(len(s), 150)]
}

// wantObject fails unless an object has these bytes, in both directions, and the name that Go's own library makes of them.
func wantObject(t *testing.T, what string, o api.Object, b string) {
	t.Helper()
	if e := object.Check(o); e != api.OK {
		t.Errorf("%s: check %d: %s", what, e, brief(o))
	}
	if got, e := object.Encode(o); string(got) != b || e != api.OK {
		t.Errorf("%s: encode %s %d, want %s", what, brief(got), e, brief(b))
	}
	if got, e := object.Decode([]byte(b)); !same(got, o) || e != api.OK {
		t.Errorf("%s: decode %s %d, want %s", what, brief(got), e, brief(o))
	}
	wantName(t, what, o, digest(b), api.OK)
}

// wantName fails unless Name has this result, and so have Blob and Commit, if an object has nothing but what they are given.
func wantName(t *testing.T, what string, o api.Object, d api.ID, err api.Errno) {
	t.Helper()
	if got, e := object.Name(o); got != d || e != err {
		t.Errorf("%s: name %x %d, want %x %d", what, got, e, d, err)
	}
	if same(o, api.Object{Kind: api.ObjBlob, Text: o.Text}) {
		if got, e := object.Blob(o.Text); got != d || e != err {
			t.Errorf("%s: blob %x %d, want %x %d", what, got, e, d, err)
		}
	}
	if same(o, api.Object{Kind: api.ObjCommit, Commit: o.Commit}) {
		if got, e := object.Commit(o.Commit); got != d || e != err {
			t.Errorf("%s: commit %x %d, want %x %d", what, got, e, d, err)
		}
	}
}

// wantBad fails unless something is no object, for all functions that take one.
func wantBad(t *testing.T, what string, o api.Object) {
	t.Helper()
	if e := object.Check(o); e != api.ErrBad {
		t.Errorf("%s: check %d: %s", what, e, brief(o))
	}
	if got, e := object.Encode(o); got != nil || e != api.ErrBad {
		t.Errorf("%s: encode %s %d", what, brief(got), e)
	}
	wantName(t, what, o, api.ID{}, api.ErrBad)
	wantFiles(t, what+", as the tree", o, nil, nil, api.ErrBad)
	wantFiles(t, what+", as a blob", tree(), []api.Object{blob("a"), o}, nil, api.ErrBad)
}

// wantForm fails unless some bytes are those of no object.
func wantForm(t *testing.T, what, b string) {
	t.Helper()
	if got, e := object.Decode([]byte(b)); !same(got, api.Object{}) || e != api.ErrForm {
		t.Errorf("%s: decode %s: %s %d", what, brief(b), brief(got), e)
	}
}

// wantDecoded fails unless Decode finds what another reading of the bytes finds.
func wantDecoded(t *testing.T, what, b string) {
	t.Helper()
	if o, ok := parsed(b); ok {
		wantObject(t, what, o, b)
		return
	}
	wantForm(t, what, b)
}

// treeOf are the name of the tree of files and the list with it and its blobs, made with Go's own library.
func treeOf(l []api.File) (api.ID, []api.Object) {
	texts := map[string]api.Object{}
	top := tree()
	for _, f := range l {
		o := blob(string(f.Text))
		d := digest(encoded(o))
		top.Tree = append(top.Tree, api.Entry{Path: f.Path, Blob: d})
		texts[string(d[:])] = o
	}
	all := []api.Object{top}
	var names []string
	for d := range texts {
		names = append(names, d)
	}
	slices.Sort(names)
	for _, d := range names {
		all = append(all, texts[d])
	}
	return digest(encoded(top)), all
}

// wantTree fails unless Tree returns the tree of files and its blobs, and these have the files.
func wantTree(t *testing.T, what string, l []api.File) {
	t.Helper()
	d, all := treeOf(l)
	got, objects, e := object.Tree(l)
	if got != d || !slices.EqualFunc(objects, all, same) || e != api.OK {
		t.Errorf("%s: tree %x %s %d, want %x %s", what, got, brief(objects), e, d, brief(all))
		return
	}
	for i, o := range all {
		wantObject(t, what+", an object", objects[i], encoded(o))
	}
	wantFiles(t, what, objects[0], objects[1:], l, api.OK)
}

func wantNoTree(t *testing.T, what string, l []api.File, err api.Errno) {
	t.Helper()
	got, objects, e := object.Tree(l)
	if got != (api.ID{}) || len(objects) > 0 || e != err {
		t.Errorf("%s: tree %x %s %d, want %d", what, got, brief(objects), e, err)
	}
}

func wantFiles(t *testing.T, what string, top api.Object, blobs []api.Object, l []api.File, err api.Errno) {
	t.Helper()
	got, e := object.Files(top, blobs)
	if !slices.EqualFunc(got, l, sameFile) || e != err {
		t.Errorf("%s: files %s %d, want %s %d", what, brief(got), e, brief(l), err)
	}
}
