package reach_test

import (
	"maps"
	"math/rand/v2"
	"slices"
	"strconv"
	"testing"

	"siding/api"
	"siding/object"
	"siding/reach"
	"siding/store"
)

// P12.4

// wantConsequences fails unless what the chapter says of sweeping, and of what is reached, holds.
func wantConsequences(t *testing.T, what string, m model, heads ids) {
	t.Helper()
	s := m.store()
	before, _ := reach.Reach(s, heads)
	missing, _ := reach.Missing(s, heads)
	garbage, _ := reach.Garbage(s, heads)
	kept, e := reach.Sweep(s, heads)
	if e != api.OK || store.Check(kept) != api.OK || !slices.Equal(kept.Keys, before) {
		t.Fatalf("%s: swept %s %d", what, brief(kept), e)
	}
	wantLists(t, what+", swept", kept, heads, lists{reached: before, missing: missing})
	if again, e := reach.Sweep(kept, heads); !sameStore(again, kept) || e != api.OK {
		t.Errorf("%s: swept again %s %d", what, brief(again), e)
	}
	if all := sortedKeys(slices.Concat(before, garbage)); !slices.Equal(all, s.Keys) || len(all) != len(before)+len(garbage) {
		t.Errorf("%s: reached %s, and garbage %s", what, short(before), short(garbage))
	}
	for _, key := range before {
		for _, id := range linksOf(m.all[key]) {
			if linked := keyOf(id, m.weak); slices.Contains(garbage, linked) || !slices.Contains(before, linked) && !slices.Contains(missing, linked) {
				t.Errorf("%s: %x links %x", what, key, linked)
			}
		}
	}
	for _, key := range missing {
		if has, e := store.Has(s, key); has || e != api.OK {
			t.Errorf("%s: %x is missing, %v %d", what, key, has, e)
		}
	}
}

// wantTogether fails unless just that is reached, and missing, from two lists of heads together that is from the one or from the other one.
func wantTogether(t *testing.T, what string, s api.Store, some, others ids) {
	t.Helper()
	for _, find := range []func(api.Store, []api.ID) ([]api.ID, api.Errno){reach.Reach, reach.Missing} {
		a, _ := find(s, some)
		b, _ := find(s, others)
		for _, heads := range []ids{slices.Concat(some, others), slices.Concat(others, some)} {
			if got, e := find(s, heads); !slices.Equal(got, sortedKeys(slices.Concat(a, b))) || e != api.OK {
				t.Errorf("%s: together %s %d, alone %s and %s", what, short(got), e, short(a), short(b))
			}
		}
	}
}

// wantAll fails unless everything that the chapter says of a store and heads holds.
func wantAll(t *testing.T, what string, m model, heads ids) {
	t.Helper()
	wantModel(t, what, m, heads)
	wantConsequences(t, what, m, heads)
	half := len(heads) / 2
	wantTogether(t, what, m.store(), heads[:half], heads[half:])
	wantTogether(t, what, m.store(), heads, heads[half:])
}

// subsets are all lists of some names in their order, each one once or not at all.
func subsets(names ids) []ids {
	all := []ids{nil}
	for _, id := range names {
		for _, l := range all {
			all = append(all, append(slices.Clone(l), id))
		}
	}
	return all
}

// objectsAt are objects with a key: a blob, trees with each subset of some links, and commits with each tree and each list of parents of these.
func objectsAt(key api.ID, names ids) []api.Object {
	l := []api.Object{blobAt(1, key)}
	for _, some := range subsets(names)[1:] {
		l = append(l, treeAt(1, key, some...))
	}
	for _, tree := range names {
		l = append(l, commitWith(1, key, tree))
		for _, first := range names {
			l = append(l, commitWith(1, key, tree, first))
			for _, second := range names {
				second[31]++
				l = append(l, commitWith(1, key, tree, first, second))
			}
		}
	}
	return l
}

// All stores of up to two objects that link themselves, each other, and what is missing, in all ways, with all heads.
func TestAllShapesOfTwo(t *testing.T) {
	names := ids{{1}, {200}, {9}}
	first, second := objectsAt(names[0], names), objectsAt(names[1], names)
	want := func(objects ...api.Object) {
		t.Helper()
		m := of(1, objects...)
		for _, heads := range subsets(names) {
			wantModel(t, "a shape", m, heads)
		}
		wantConsequences(t, "a shape", m, names[:1])
		wantTogether(t, "a shape", m.store(), names[1:2], names[2:])
		if got, e := reach.Wrong(m.store()); !slices.Equal(got, m.wrong()) || e != api.OK {
			t.Errorf("wrong %s %d, want %s", short(got), e, short(m.wrong()))
		}
	}
	for _, a := range first {
		want(a)
		for _, b := range second {
			want(a, b)
		}
	}
	if len(first) != 1+7+3*13 {
		t.Error(len(first))
	}
}

// Stores of three trees or blobs, with each way to link each other.
func TestAllTreesOfThree(t *testing.T) {
	names := ids{{1}, {2}, {3}, {4}}
	var l [3][]api.Object
	for i := range l {
		l[i] = objectsAt(names[i], names)[:16]
	}
	for _, a := range l[0] {
		for _, b := range l[1] {
			for _, c := range l[2] {
				m := of(1, a, b, c)
				s := m.store()
				for i := range l {
					want := m.lists(names[i : i+1])
					if got, e := reach.Reach(s, names[i:i+1]); !slices.Equal(got, want.reached) || e != api.OK {
						t.Fatal(brief(m), i, short(got), e)
					}
					if got, e := reach.Missing(s, names[i:i+1]); !slices.Equal(got, want.missing) || e != api.OK {
						t.Fatal(brief(m), i, short(got), e)
					}
				}
			}
		}
	}
}

// randomModel has n objects, each linking some of the keys of a list at random, with any bytes behind what counts.
func randomModel(r *rand.Rand, weak, n int, links ids) model {
	m := model{weak, map[api.ID]api.Object{}}
	pick := func() api.ID {
		id := links[r.IntN(len(links))]
		for i := weak; i < 32; i++ {
			id[i] = byte(r.IntN(3))
		}
		return id
	}
	for tick := 0; len(m.all) < n; tick++ {
		o := numbered(tick)
		switch r.IntN(4) {
		case 0:
			o = commitAt(tick, pick(), pick())
		case 1:
			first, second := pick(), pick()
			if second == first {
				second[31] ^= 128
			}
			o = commitAt(tick, pick(), first, second)
		case 2:
			o = treeBelow(strconv.Itoa(tick), append(make(ids, r.IntN(12)), pick())...)
			for i := range o.Tree {
				o.Tree[i].Blob = pick()
			}
		}
		key := keyOf(nameOf(o), weak)
		if _, found := m.all[key]; !found && (weak > 1 || slices.Contains(links, key)) {
			m.all[key] = o
			if weak > 1 {
				links = append(links, nameOf(o))
			}
		}
	}
	return m
}

// randomHeads are up to n names of a store, or others.
func randomHeads(r *rand.Rand, m model, n int) ids {
	heads := make(ids, r.IntN(n+1))
	keys := m.keys()
	for i := range heads {
		if k := r.IntN(len(keys) + 2); k < len(keys) {
			heads[i] = keys[k]
		} else {
			heads[i] = api.ID{byte(r.IntN(256)), 1: 1}
		}
		for k := m.weak; k < 32; k++ {
			heads[i][k] = byte(r.IntN(2))
		}
	}
	return heads
}

// Stores whose objects link each other at random, in rings, too.
func TestRandomRings(t *testing.T) {
	r := rand.New(rand.NewPCG(12, 2))
	seen := map[string]int{}
	for i := range 500 {
		var links ids
		for range 1 + r.IntN(60) {
			links = append(links, api.ID{byte(r.IntN(256))})
		}
		links = sortedKeys(links)
		m := randomModel(r, 1, r.IntN(len(links)+1), links)
		heads := randomHeads(r, m, 1+i%5)
		l := m.lists(heads)
		for what, is := range map[string]bool{"reached": len(l.reached) > 3, "missing": len(l.missing) > 3, "garbage": len(l.garbage) > 3, "all": len(l.reached) > 3 && len(l.missing) > 3 && len(l.garbage) > 3, "wrong": len(m.wrong()) > 3} {
			if is {
				seen[what]++
			}
		}
		wantAll(t, "random", m, heads)
		wantWrongModel(t, "random", m)
	}
	if len(seen) < 5 || slices.Min(slices.Collect(maps.Values(seen))) < 30 {
		t.Error(seen)
	}
}

func wantWrongModel(t *testing.T, what string, m model) {
	t.Helper()
	if got, e := reach.Wrong(m.store()); !slices.Equal(got, m.wrong()) || e != api.OK {
		t.Errorf("%s: wrong %s %d, want %s", what, short(got), e, short(m.wrong()))
	}
}

// Stores with more of a name that counts, in which each object can link those that were there before it.
func TestRandomStores(t *testing.T) {
	r := rand.New(rand.NewPCG(12, 3))
	for i := range 310 {
		weak := 2 + i%31
		m := randomModel(r, weak, r.IntN(30), ids{{1}, {31: 1}, {255, 255, 2}})
		wantAll(t, "random", m, randomHeads(r, m, 6))
		wantWrongModel(t, "random", m)
	}
	for range 4 {
		m := randomModel(r, 2+r.IntN(31), 200, ids{{}})
		wantAll(t, "random", m, randomHeads(r, m, 3))
		// Some of these are taken twice, and there may not be more than 200 then.
		wantAll(t, "random", m, randomHeads(r, m, 130))
		wantModel(t, "random", m, randomHeads(r, m, 200))
		wantWrongModel(t, "random", m)
	}
}

// The order of the heads, and how often each one is there, do not matter.
func TestOrderOfHeads(t *testing.T) {
	r := rand.New(rand.NewPCG(12, 4))
	for range 100 {
		m := randomModel(r, 1, 20, randomKeys(r, 40))
		heads := randomHeads(r, m, 6)
		want := m.lists(heads)
		for range 5 {
			l := slices.Concat(heads, heads[:r.IntN(len(heads)+1)])
			r.Shuffle(len(l), func(i, k int) { l[i], l[k] = l[k], l[i] })
			wantLists(t, "shuffled", m.store(), l, want)
		}
	}
}

// randomKeys are n keys of one byte.
func randomKeys(r *rand.Rand, n int) ids {
	var l ids
	for _, first := range r.Perm(256)[:n] {
		l = append(l, api.ID{byte(first)})
	}
	return sortedKeys(l)
}

// What layer 9 makes of files has no wrong link, and nothing is missing.
func TestFilesAreWhole(t *testing.T) {
	r := rand.New(rand.NewPCG(12, 5))
	for i := range 200 {
		s, _ := store.New(32)
		var heads ids
		for k := range 1 + i%4 {
			var files []api.File
			for n := range r.IntN(13) {
				files = append(files, api.File{Path: "f" + string(rune('a'+n)), Text: []byte(strconv.Itoa(r.IntN(20)))})
			}
			id, objects, e := object.Tree(files)
			if e != api.OK {
				t.Fatal(e)
			}
			for _, o := range append(objects, commitAt(k, id, heads[max(0, k-2):]...)) {
				if s, id, e = store.Put(s, o); e != api.OK {
					t.Fatal(e)
				}
			}
			heads = append(heads, id)
			wantLists(t, "files", s, ids{nameOf(objects[0])}, lists{reached: of(32, objects...).keys(), garbage: without(s.Keys, of(32, objects...).keys())})
		}
		wantLists(t, "commits", s, heads[len(heads)-1:], lists{reached: s.Keys})
		if got, e := reach.Wrong(s); len(got) > 0 || e != api.OK {
			t.Error(short(got), e)
		}
	}
}

// without are keys that are not among some others.
func without(keys, others ids) ids {
	return slices.DeleteFunc(slices.Clone(keys), func(id api.ID) bool { return slices.Contains(others, id) })
}

// Example of the chapter.
func TestExample(t *testing.T) {
	id, objects, _ := object.Tree([]api.File{{Path: "a", Text: []byte("x")}})
	c := commit(id)
	s, _ := store.New(32)
	for _, o := range append(objects, blob("y"), c) {
		s, _, _ = store.Put(s, o)
	}
	heads := namesOf(c)
	wantLists(t, "the commit", s, heads, lists{reached: of(32, append(objects, c)...).keys(), garbage: namesOf(blob("y"))})
	at := slices.Index(s.Keys, nameOf(blob("x")))
	s.Keys, s.Objs = slices.Delete(s.Keys, at, at+1), slices.Delete(s.Objs, at, at+1)
	wantLists(t, "without x", s, heads, lists{of(32, objects[0], c).keys(), namesOf(blob("x")), namesOf(blob("y"))})
	wrong := commit(nameOf(blob("y")))
	s, _, _ = store.Put(s, wrong)
	if got, e := reach.Wrong(s); !slices.Equal(got, namesOf(wrong)) || e != api.OK {
		t.Error(short(got), e)
	}
}
