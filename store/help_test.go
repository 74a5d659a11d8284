package store_test

import (
	"bytes"
	"crypto/sha256"
	"encoding/binary"
	"fmt"
	"maps"
	"math"
	"slices"
	"strconv"
	"strings"
	"testing"

	"siding/api"
	"siding/store"
)

// extremes are numbers that are no Weak, among them those whose lowest bits are those of one.
var extremes = []int{math.MinInt, math.MinInt + 1, math.MinInt32, -1 << 32, -256, -32, -2, -1, 0, 33, 34, 64, 200, 255, 256, 257, 288, 1 << 16, math.MaxInt32, 1 << 32, 1<<32 + 1, 1<<32 + 32, math.MaxInt - 1, math.MaxInt}

func blob(text string) api.Object { return api.Object{Kind: api.ObjBlob, Text: []byte(text)} }

func tree(entries ...api.Entry) api.Object { return api.Object{Kind: api.ObjTree, Tree: entries} }

func commit(c api.Commit) api.Object { return api.Object{Kind: api.ObjCommit, Commit: c} }

// number, data and list are the bytes of values, made with Go's own library.

func number(n int) string { return "\x01" + string(binary.AppendVarint(nil, int64(n))) }

func data(s string) string { return "\x02" + string(binary.AppendUvarint(nil, uint64(len(s)))) + s }

func list(parts ...string) string {
	return "\x03" + string(binary.AppendUvarint(nil, uint64(len(parts)))) + strings.Join(parts, "")
}

// encoded are the bytes of an object, whether it is valid or not.
func encoded(o api.Object) string {
	var parts []string
	switch o.Kind {
	case 1:
		return list(number(1), data(string(o.Text)))
	case 2:
		for _, e := range o.Tree {
			parts = append(parts, list(data(e.Path), data(string(e.Blob[:]))))
		}
		return list(number(2), list(parts...))
	}
	for _, p := range o.Commit.Parents {
		parts = append(parts, data(string(p[:])))
	}
	c := o.Commit
	return list(number(int(o.Kind)), data(string(c.Tree[:])), list(parts...), data(c.Note), number(c.Tick))
}

func nameOf(o api.Object) api.ID { return sha256.Sum256([]byte(encoded(o))) }

// keyOf is the key of a name.
func keyOf(id api.ID, weak int) api.ID {
	var key api.ID
	for i := range weak {
		key[i] = id[i]
	}
	return key
}

// made is the valid store with some objects of different keys.
func made(weak int, objects ...api.Object) api.Store {
	all := map[string]string{}
	for _, o := range objects {
		key := keyOf(nameOf(o), weak)
		all[string(key[:])] = encoded(o)
	}
	if len(all) < len(objects) {
		panic("objects of a store have the same key")
	}
	return laid(weak, all)
}

// laid is the store with some bytes by keys, whether it is valid or not.
func laid(weak int, all map[string]string) api.Store {
	s := api.Store{Weak: weak}
	var keys []string
	for key := range all {
		keys = append(keys, key)
	}
	slices.Sort(keys)
	for _, key := range keys {
		s.Keys = append(s.Keys, api.ID([]byte(key)))
		s.Objs = append(s.Objs, []byte(all[key]))
	}
	return s
}

// clone is the same store in other memory.
func clone(s api.Store) api.Store {
	c := api.Store{Weak: s.Weak, Keys: slices.Clone(s.Keys)}
	for _, b := range s.Objs {
		c.Objs = append(c.Objs, bytes.Clone(b))
	}
	return c
}

// numbered is a blob for each number.
func numbered(n int) api.Object { return blob("the number " + strconv.Itoa(n)) }

// apart are n blobs with different keys.
func apart(weak, n int) []api.Object {
	var l []api.Object
	seen := map[api.ID]bool{}
	for i := 0; len(l) < n; i++ {
		o := numbered(i)
		if key := keyOf(nameOf(o), weak); !seen[key] {
			seen[key] = true
			l = append(l, o)
		}
	}
	return l
}

// clashing are n different blobs with the same key.
func clashing(weak, n int) []api.Object {
	seen := map[api.ID][]int{}
	for i := 0; ; i++ {
		key := keyOf(nameOf(numbered(i)), weak)
		seen[key] = append(seen[key], i)
		if len(seen[key]) == n {
			var l []api.Object
			for _, k := range seen[key] {
				l = append(l, numbered(k))
			}
			return l
		}
	}
}

// beginning is a blob whose name begins with some bytes, and which is none of some others.
func beginning(first string, others ...api.Object) api.Object {
	for i := 0; ; i++ {
		o := numbered(i)
		id := nameOf(o)
		if strings.HasPrefix(string(id[:]), first) && !slices.ContainsFunc(others, func(other api.Object) bool { return same(o, other) }) {
			return o
		}
	}
}

// sorted are objects in the order of their names.
func sorted(l []api.Object) []api.Object {
	return slices.SortedFunc(slices.Values(l), func(a, b api.Object) int {
		x, y := nameOf(a), nameOf(b)
		return strings.Compare(string(x[:]), string(y[:]))
	})
}

// someObjects are valid objects of all kinds, among them the greatest ones.
func someObjects() []api.Object {
	x, y := nameOf(blob("x")), nameOf(blob("y"))
	var long []api.Entry
	for i := range 12 {
		long = append(long, api.Entry{Path: "p" + string(rune('a'+i)) + strings.Repeat("/a", 29), Blob: api.ID{byte(i)}})
	}
	return []api.Object{
		blob(""), blob("a"), blob("x"), blob("y"), blob("a\nb\n"), blob("\x00\xff"), blob(strings.Repeat("z", 2000)), blob(strings.Repeat("\n", 59)), blob(encoded(blob("a"))),
		tree(), tree(api.Entry{Path: "a", Blob: x}), tree(api.Entry{Path: "a", Blob: y}), tree(api.Entry{Path: "a", Blob: x}, api.Entry{Path: "b", Blob: x}), tree(long...),
		commit(api.Commit{}), commit(api.Commit{Tree: x}), commit(api.Commit{Tree: x, Parents: []api.ID{y, x}, Note: "n\n", Tick: 7}), commit(api.Commit{Tree: x, Parents: []api.ID{x, y}, Note: "n\n", Tick: 7}),
		commit(api.Commit{Tick: 1000000, Note: strings.Repeat("n", 200)}),
	}
}

// mixedObjects are not valid, because they have what does not belong to their kind.
func mixedObjects() map[string]api.Object {
	return map[string]api.Object{
		"nothing":              {},
		"a blob with an entry": {Kind: 1, Text: []byte("a"), Tree: []api.Entry{{Path: "a"}}},
		"a blob with a tick":   {Kind: 1, Commit: api.Commit{Tick: 1}},
		"a tree with a text":   {Kind: 2, Text: []byte("a")},
		"a commit with a text": {Kind: 3, Text: []byte("a")},
	}
}

// wrongObjects are not valid, whatever they are read from.
func wrongObjects() map[string]api.Object {
	return map[string]api.Object{
		"a kind of its own":          {Kind: 4},
		"a kind that is too great":   {Kind: 255},
		"a blob that is too long":    blob(strings.Repeat("a", 2001)),
		"a blob of too many lines":   blob(strings.Repeat("\n", 60)),
		"a tree without a path":      tree(api.Entry{}),
		"a tree out of order":        tree(api.Entry{Path: "b"}, api.Entry{Path: "a"}),
		"a tree with a path twice":   tree(api.Entry{Path: "a"}, api.Entry{Path: "a"}),
		"a tree of too many entries": tree(make([]api.Entry, 13)...),
		"a commit with equal ones":   commit(api.Commit{Parents: make([]api.ID, 2)}),
		"a commit of three parents":  commit(api.Commit{Parents: []api.ID{{1}, {2}, {3}}}),
		"a commit with a long note":  commit(api.Commit{Note: strings.Repeat("n", 201)}),
		"a commit before the ticks":  commit(api.Commit{Tick: -1}),
		"a commit behind the ticks":  commit(api.Commit{Tick: 1000001}),
	}
}

// badObjects are all that are not valid.
func badObjects() map[string]api.Object {
	all := mixedObjects()
	maps.Copy(all, wrongObjects())
	return all
}

func same(a, b api.Object) bool {
	x, y := a.Commit, b.Commit
	return a.Kind == b.Kind && bytes.Equal(a.Text, b.Text) && slices.Equal(a.Tree, b.Tree) && x.Tree == y.Tree && slices.Equal(x.Parents, y.Parents) && x.Note == y.Note && x.Tick == y.Tick
}

func sameStore(a, b api.Store) bool {
	return a.Weak == b.Weak && slices.Equal(a.Keys, b.Keys) && slices.EqualFunc(a.Objs, b.Objs, bytes.Equal)
}

// brief is what something looks like, cut off after a while, because stores may have thousands of bytes.
func brief(x any) string {
	s := fmt.Sprintf("%+q", fmt.Sprint(x))
	return s[:min(len(s), 200)]
}

// wantValid fails unless a store is valid.
func wantValid(t *testing.T, what string, s api.Store) {
	t.Helper()
	if e := store.Check(s); e != api.OK {
		t.Errorf("%s: check %d: %s", what, e, brief(s))
	}
}

func wantKey(t *testing.T, what string, s api.Store, o api.Object, key api.ID, err api.Errno) {
	t.Helper()
	if got, e := store.Key(s, o); got != key || e != err {
		t.Errorf("%s: key %x %d, want %x %d", what, got, e, key, err)
	}
}

// wantPut fails unless Put returns this store, with the key that Go's own library makes of the object.
func wantPut(t *testing.T, what string, s api.Store, o api.Object, want api.Store) {
	t.Helper()
	key := keyOf(nameOf(o), s.Weak)
	got, id, e := store.Put(s, o)
	if !sameStore(got, want) || id != key || e != api.OK {
		t.Errorf("%s: put %s %x %d, want %s %x", what, brief(got), id, e, brief(want), key)
	}
	wantValid(t, what, got)
}

func wantNoPut(t *testing.T, what string, s api.Store, o api.Object, err api.Errno) {
	t.Helper()
	if got, id, e := store.Put(s, o); !sameStore(got, api.Store{}) || id != (api.ID{}) || e != err {
		t.Errorf("%s: put %s %x %d, want %d", what, brief(got), id, e, err)
	}
}

// wantGet fails unless an object is found, with each way to look for it.
func wantGet(t *testing.T, what string, s api.Store, id api.ID, o api.Object) {
	t.Helper()
	if got, e := store.Has(s, id); !got || e != api.OK {
		t.Errorf("%s: has %v %d", what, got, e)
	}
	if got, e := store.Get(s, id); !same(got, o) || e != api.OK {
		t.Errorf("%s: get %s %d, want %s", what, brief(got), e, brief(o))
	}
}

func wantNone(t *testing.T, what string, s api.Store, id api.ID) {
	t.Helper()
	if got, e := store.Has(s, id); got || e != api.OK {
		t.Errorf("%s: has %v %d", what, got, e)
	}
	if got, e := store.Get(s, id); !same(got, api.Object{}) || e != api.ErrNone {
		t.Errorf("%s: get %s %d", what, brief(got), e)
	}
}

func wantJoin(t *testing.T, what string, a, b, want api.Store, err api.Errno) {
	t.Helper()
	got, e := store.Join(a, b)
	if !sameStore(got, want) || e != err {
		t.Errorf("%s: join %s %d, want %s %d", what, brief(got), e, brief(want), err)
	}
	if e == api.OK {
		wantValid(t, what, got)
	}
}

// wantBoth fails unless two stores that are joined in both orders are this one.
func wantBoth(t *testing.T, what string, a, b, want api.Store) {
	t.Helper()
	wantJoin(t, what, a, b, want, api.OK)
	wantJoin(t, what+", in the other order", b, a, want, api.OK)
}

// wantBad fails unless a store is not valid, for all functions that take one, whatever else they are given.
func wantBad(t *testing.T, what string, s api.Store) {
	t.Helper()
	if e := store.Check(s); e != api.ErrBad {
		t.Errorf("%s: check %d: %s", what, e, brief(s))
	}
	for _, o := range []api.Object{blob("a"), numbered(0), {}} {
		wantKey(t, what, s, o, api.ID{}, api.ErrBad)
		wantNoPut(t, what, s, o, api.ErrBad)
	}
	names := []api.ID{{}, nameOf(blob("a"))}
	if len(s.Keys) > 0 {
		names = append(names, s.Keys[0], s.Keys[len(s.Keys)-1])
	}
	for _, id := range names {
		if got, e := store.Has(s, id); got || e != api.ErrBad {
			t.Errorf("%s: has %v %d", what, got, e)
		}
		if got, e := store.Get(s, id); !same(got, api.Object{}) || e != api.ErrBad {
			t.Errorf("%s: get %s %d", what, brief(got), e)
		}
	}
	for _, other := range []api.Store{s, {Weak: s.Weak}, {Weak: 1}, {Weak: 32}, made(32, apart(32, 3)...), {}} {
		wantJoin(t, what, s, other, api.Store{}, api.ErrBad)
		wantJoin(t, what+", as the second one", other, s, api.Store{}, api.ErrBad)
	}
}
