package reach_test

import (
	"bytes"
	"crypto/sha256"
	"encoding/binary"
	"fmt"
	"maps"
	"slices"
	"strconv"
	"strings"
	"testing"

	"siding/api"
	"siding/reach"
)

type ids = []api.ID

func blob(text string) api.Object { return api.Object{Kind: api.ObjBlob, Text: []byte(text)} }

// tree is a tree whose entries link these names, one after the other.
func tree(blobs ...api.ID) api.Object { return treeBelow("", blobs...) }

// treeBelow is a tree whose paths begin with some bytes.
func treeBelow(first string, blobs ...api.ID) api.Object {
	o := api.Object{Kind: api.ObjTree}
	for i, id := range blobs {
		o.Tree = append(o.Tree, api.Entry{Path: first + string(rune('a'+i)), Blob: id})
	}
	return o
}

func commit(tree api.ID, parents ...api.ID) api.Object { return commitAt(0, tree, parents...) }

func commitAt(tick int, tree api.ID, parents ...api.ID) api.Object {
	return api.Object{Kind: api.ObjCommit, Commit: api.Commit{Tree: tree, Parents: parents, Tick: tick}}
}

// number, data and list are the bytes of values, made with Go's own library.

func number(n int) string { return "\x01" + string(binary.AppendVarint(nil, int64(n))) }

func data(s string) string { return "\x02" + string(binary.AppendUvarint(nil, uint64(len(s)))) + s }

func list(parts ...string) string {
	return "\x03" + string(binary.AppendUvarint(nil, uint64(len(parts)))) + strings.Join(parts, "")
}

// encoded are the bytes of an object, whether it is valid or not.
func encoded(o api.Object) string {
	var parts []string
	switch o.Kind {
	case 1:
		return list(number(1), data(string(o.Text)))
	case 2:
		for _, e := range o.Tree {
			parts = append(parts, list(data(e.Path), data(string(e.Blob[:]))))
		}
		return list(number(2), list(parts...))
	}
	for _, p := range o.Commit.Parents {
		parts = append(parts, data(string(p[:])))
	}
	c := o.Commit
	return list(number(int(o.Kind)), data(string(c.Tree[:])), list(parts...), data(c.Note), number(c.Tick))
}

func nameOf(o api.Object) api.ID { return sha256.Sum256([]byte(encoded(o))) }

// namesOf are the names of objects, in the order of these.
func namesOf(objects ...api.Object) ids {
	var l ids
	for _, o := range objects {
		l = append(l, nameOf(o))
	}
	return l
}

// keyOf is the key of a name.
func keyOf(id api.ID, weak int) api.ID {
	var key api.ID
	for i := range weak {
		key[i] = id[i]
	}
	return key
}

// sortedKeys are keys in increasing order, each one once.
func sortedKeys(l ids) ids {
	seen := map[string]bool{}
	for _, id := range l {
		seen[string(id[:])] = true
	}
	var keys ids
	for _, key := range slices.Sorted(maps.Keys(seen)) {
		keys = append(keys, api.ID([]byte(key)))
	}
	return keys
}

// numbered is a blob for each number.
func numbered(n int) api.Object { return blob("the number " + strconv.Itoa(n)) }

// found is the first one of the objects made of numbers that has a key.
func found(weak int, key api.ID, make func(i int) api.Object) api.Object {
	for i := 0; ; i++ {
		if o := make(i); keyOf(nameOf(o), weak) == key {
			return o
		}
	}
}

// blobAt, treeAt and commitWith are objects with a key, if only a few bytes of a name count. A tree without entries has one name alone.

func blobAt(weak int, key api.ID) api.Object { return found(weak, key, numbered) }

func treeAt(weak int, key api.ID, blobs ...api.ID) api.Object {
	return found(weak, key, func(i int) api.Object { return treeBelow(strconv.Itoa(i)+"/", blobs...) })
}

func commitWith(weak int, key api.ID, tree api.ID, parents ...api.ID) api.Object {
	return found(weak, key, func(i int) api.Object { return commitAt(i, tree, parents...) })
}

// apart is the first one of the objects made of numbers that has another key than some others.
func apart(weak int, others []api.Object, make func(i int) api.Object) api.Object {
	taken := map[api.ID]bool{}
	for _, o := range others {
		taken[keyOf(nameOf(o), weak)] = true
	}
	for i := 0; ; i++ {
		if o := make(i); !taken[keyOf(nameOf(o), weak)] {
			return o
		}
	}
}

// model is what a store has: objects by their keys.
type model struct {
	weak int
	all  map[api.ID]api.Object
}

// of is the model with some objects of different keys.
func of(weak int, objects ...api.Object) model {
	m := model{weak, map[api.ID]api.Object{}}
	for _, o := range objects {
		m.all[keyOf(nameOf(o), weak)] = o
	}
	if len(m.all) < len(objects) {
		panic("objects of a store have the same key")
	}
	return m
}

// store is the store that a model is of.
func (m model) store() api.Store {
	s := api.Store{Weak: m.weak, Keys: m.keys()}
	for _, key := range s.Keys {
		s.Objs = append(s.Objs, []byte(encoded(m.all[key])))
	}
	return s
}

// keys are those of all objects.
func (m model) keys() ids { return sortedKeys(slices.Collect(maps.Keys(m.all))) }

// linksOf are the names that an object has.
func linksOf(o api.Object) ids {
	var l ids
	for _, e := range o.Tree {
		l = append(l, e.Blob)
	}
	if o.Kind == 3 {
		l = append(append(l, o.Commit.Parents...), o.Commit.Tree)
	}
	return l
}

// has reports whether one of some names has a key.
func (m model) has(l ids, key api.ID) bool {
	return slices.ContainsFunc(l, func(id api.ID) bool { return bytes.Equal(id[:m.weak], key[:m.weak]) })
}

// reached are the keys of what is reached: in each round it is asked of each object whether a reached one links it, until there is a round without a new one.
func (m model) reached(heads ids) map[api.ID]bool {
	is := map[api.ID]bool{}
	for key := range m.all {
		if m.has(heads, key) {
			is[key] = true
		}
	}
	for n := -1; n < len(is); {
		n = len(is)
		var names ids
		for key := range is {
			names = append(names, linksOf(m.all[key])...)
		}
		for key := range m.all {
			if m.has(names, key) {
				is[key] = true
			}
		}
	}
	return is
}

// lists are those that are found from heads.
type lists struct{ reached, missing, garbage ids }

// lists are those that the chapter defines.
func (m model) lists(heads ids) lists {
	var l lists
	is := m.reached(heads)
	names := slices.Clone(heads)
	for key, o := range m.all {
		if is[key] {
			l.reached = append(l.reached, key)
			names = append(names, linksOf(o)...)
		} else {
			l.garbage = append(l.garbage, key)
		}
	}
	for _, id := range names {
		if _, found := m.all[keyOf(id, m.weak)]; !found {
			l.missing = append(l.missing, keyOf(id, m.weak))
		}
	}
	return lists{sortedKeys(l.reached), sortedKeys(l.missing), sortedKeys(l.garbage)}
}

// wrong are the keys of objects with a wrong link.
func (m model) wrong() ids {
	var l ids
	for key, o := range m.all {
		var bad bool
		not := func(id api.ID, kind uint8) {
			if other, found := m.all[keyOf(id, m.weak)]; found && other.Kind != kind {
				bad = true
			}
		}
		for _, e := range o.Tree {
			not(e.Blob, 1)
		}
		for _, id := range o.Commit.Parents {
			not(id, 3)
		}
		if o.Kind == 3 {
			not(o.Commit.Tree, 2)
		}
		if bad {
			l = append(l, key)
		}
	}
	return sortedKeys(l)
}

func sameStore(a, b api.Store) bool {
	return a.Weak == b.Weak && slices.Equal(a.Keys, b.Keys) && slices.EqualFunc(a.Objs, b.Objs, bytes.Equal)
}

// swept is a store with what has some keys alone.
func swept(s api.Store, keys ids) api.Store {
	got := api.Store{Weak: s.Weak}
	for i, key := range s.Keys {
		if slices.Contains(keys, key) {
			got.Keys, got.Objs = append(got.Keys, key), append(got.Objs, s.Objs[i])
		}
	}
	return got
}

// brief is what something looks like, cut off after a while, because stores may have thousands of bytes.
func brief(x any) string {
	s := fmt.Sprintf("%+q", fmt.Sprint(x))
	return s[:min(len(s), 200)]
}

// short are the first bytes of keys, and the last one.
func short(l ids) string {
	var parts []string
	for _, id := range l[:min(len(l), 20)] {
		parts = append(parts, fmt.Sprintf("%x..%x", id[:3], id[31]))
	}
	return fmt.Sprint(len(l), parts)
}

// wantLists fails unless these are the lists, and Sweep returns the store with what is reached alone.
func wantLists(t *testing.T, what string, s api.Store, heads ids, want lists) {
	t.Helper()
	if got, e := reach.Reach(s, heads); !slices.Equal(got, want.reached) || e != api.OK {
		t.Errorf("%s: reached %s %d, want %s", what, short(got), e, short(want.reached))
	}
	if got, e := reach.Missing(s, heads); !slices.Equal(got, want.missing) || e != api.OK {
		t.Errorf("%s: missing %s %d, want %s", what, short(got), e, short(want.missing))
	}
	if got, e := reach.Garbage(s, heads); !slices.Equal(got, want.garbage) || e != api.OK {
		t.Errorf("%s: garbage %s %d, want %s", what, short(got), e, short(want.garbage))
	}
	if got, e := reach.Sweep(s, heads); !sameStore(got, swept(s, want.reached)) || e != api.OK {
		t.Errorf("%s: swept %s %d, want %s", what, brief(got), e, short(want.reached))
	}
}

// wantModel fails unless the lists are those that the chapter defines.
func wantModel(t *testing.T, what string, m model, heads ids) {
	t.Helper()
	wantLists(t, what, m.store(), heads, m.lists(heads))
}

// wantReached fails unless just these objects are reached, nothing is missing, and all lists are those that the chapter defines.
func wantReached(t *testing.T, what string, m model, heads ids, objects ...api.Object) {
	t.Helper()
	wantModel(t, what, m, heads)
	l := m.lists(heads)
	if !slices.Equal(l.reached, of(m.weak, objects...).keys()) || len(l.missing) > 0 {
		t.Errorf("%s: the model has reached %s, missing %s", what, short(l.reached), short(l.missing))
	}
}

func wantWrong(t *testing.T, what string, m model, want ...api.Object) {
	t.Helper()
	keys := of(m.weak, want...).keys()
	if got, e := reach.Wrong(m.store()); !slices.Equal(got, keys) || e != api.OK {
		t.Errorf("%s: wrong %s %d, want %s", what, short(got), e, short(keys))
	}
	if got := m.wrong(); !slices.Equal(got, keys) {
		t.Errorf("%s: the model has %s, want %s", what, short(got), short(keys))
	}
}

// wantError fails unless all functions with heads have an error, and nothing else.
func wantError(t *testing.T, what string, s api.Store, heads ids, err api.Errno) {
	t.Helper()
	if got, e := reach.Reach(s, heads); len(got) > 0 || e != err {
		t.Errorf("%s: reached %s %d, want %d", what, short(got), e, err)
	}
	if got, e := reach.Missing(s, heads); len(got) > 0 || e != err {
		t.Errorf("%s: missing %s %d, want %d", what, short(got), e, err)
	}
	if got, e := reach.Garbage(s, heads); len(got) > 0 || e != err {
		t.Errorf("%s: garbage %s %d, want %d", what, short(got), e, err)
	}
	if got, e := reach.Sweep(s, heads); !sameStore(got, api.Store{}) || e != err {
		t.Errorf("%s: swept %s %d, want %d", what, brief(got), e, err)
	}
}
