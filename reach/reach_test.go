package reach_test

import (
	"encoding/hex"
	"math/rand/v2"
	"slices"
	"strconv"
	"strings"
	"testing"

	"siding/api"
)

// P12.1

// literal is a name that is written out.
func literal(s string) api.ID {
	b, e := hex.DecodeString(s)
	if e != nil {
		panic(e)
	}
	return api.ID(b)
}

// The example of the chapter, with its names and bytes written out.
func TestLiteralStore(t *testing.T) {
	x := literal("ec0447e09016244d28bb7334bc5829bc571bf622468f43bbff38e2a08e8d3d89")
	y := literal("828f3e17cf80d2dce1d30351fc0bd3148d85045a09acf2da6925e80b2409bcb7")
	tree := literal("6700ca90c9550a51ebbb036631f3d793d49dbe97ab40aebb7b6a122da473ca6b")
	commit := literal("3847f18b3e0aa19d22bb3cd70e5193c762597ddc64145b24435d8365a3f7e713")
	s := api.Store{Weak: 32, Keys: ids{commit, tree, y, x}, Objs: [][]byte{
		[]byte("\x03\x05\x01\x06\x02\x20" + string(tree[:]) + "\x03\x00\x02\x00\x01\x00"),
		[]byte("\x03\x02\x01\x04\x03\x01\x03\x02\x02\x01a\x02\x20" + string(x[:])),
		[]byte("\x03\x02\x01\x02\x02\x01y"),
		[]byte("\x03\x02\x01\x02\x02\x01x"),
	}}
	wantLists(t, "the commit", s, ids{commit}, lists{reached: ids{commit, tree, x}, garbage: ids{y}})
	wantLists(t, "the tree", s, ids{tree}, lists{reached: ids{tree, x}, garbage: ids{commit, y}})
	wantLists(t, "a blob", s, ids{x}, lists{reached: ids{x}, garbage: ids{commit, tree, y}})
	wantLists(t, "both blobs", s, ids{x, y}, lists{reached: ids{y, x}, garbage: ids{commit, tree}})
	wantLists(t, "no head", s, nil, lists{garbage: ids{commit, tree, y, x}})
	wantLists(t, "all", s, ids{y, commit}, lists{reached: ids{commit, tree, y, x}})
	s.Keys, s.Objs = s.Keys[:3], s.Objs[:3]
	wantLists(t, "the commit, without x", s, ids{commit}, lists{ids{commit, tree}, ids{x}, ids{y}})
	wantLists(t, "the blob, without x", s, ids{x}, lists{missing: ids{x}, garbage: ids{commit, tree, y}})
	wantLists(t, "y, without x", s, ids{y}, lists{reached: ids{y}, garbage: ids{commit, tree}})
}

func TestEmptyStores(t *testing.T) {
	for weak := 1; weak <= 32; weak++ {
		wantLists(t, "nothing", of(weak).store(), nil, lists{})
		id := nameOf(blob("x"))
		wantLists(t, "a head", of(weak).store(), ids{id, id}, lists{missing: ids{keyOf(id, weak)}})
		wantLists(t, "the head 0", of(weak).store(), ids{{}}, lists{missing: ids{{}}})
		wantLists(t, "no head", of(weak, blob("x")).store(), nil, lists{garbage: ids{keyOf(id, weak)}})
	}
}

// Heads that are missing, or are there twice, in any order.
func TestHeads(t *testing.T) {
	x, y, z := blob("x"), blob("y"), blob("z")
	for _, weak := range []int{1, 2, 31, 32} {
		m := of(weak, x, y)
		wantReached(t, "one", m, namesOf(x), x)
		wantReached(t, "twice", m, namesOf(x, x), x)
		wantReached(t, "two", m, namesOf(x, y), x, y)
		wantReached(t, "two", m, namesOf(y, x, y), x, y)
		for _, heads := range []ids{namesOf(z), namesOf(z, z), namesOf(x, z), namesOf(z, x), namesOf(z, x, z), append(namesOf(z, y, x), api.ID{}), {{}}, {{}, {}}} {
			wantModel(t, "missing", m, heads)
		}
		wantLists(t, "twice missing", m.store(), namesOf(z, z, x, z), lists{of(weak, x).keys(), of(weak, z).keys(), of(weak, y).keys()})
	}
}

// changedAt is a name with another bit of a byte, and other bytes behind those that count.
func changedAt(id api.ID, at, weak int) api.ID {
	id[at] ^= 1
	for i := weak; i < len(id); i++ {
		id[i] += 7
	}
	return id
}

// What counts of a head and of each link is its first bytes alone.
func TestNamesWithTheSameKey(t *testing.T) {
	x, tr := blob("x"), tree()
	for weak := 1; weak <= 32; weak++ {
		p := apart(weak, []api.Object{tr}, func(i int) api.Object { return commitAt(i, nameOf(tr)) })
		for at := range 32 {
			other := func(o api.Object) api.ID { return changedAt(nameOf(o), at, weak) }
			second := other(p)
			second[31] += 2
			if keyOf(other(x), weak) == keyOf(nameOf(x), weak) != (at >= weak) {
				t.Fatal(weak, at)
			}
			for what, c := range map[string]struct {
				linked []api.Object
				make   func(i int) api.Object
			}{
				"an entry":     {[]api.Object{x}, func(i int) api.Object { return treeBelow(strconv.Itoa(i), other(x)) }},
				"two entries":  {[]api.Object{x}, func(i int) api.Object { return treeBelow(strconv.Itoa(i), other(x), other(x)) }},
				"a tree":       {[]api.Object{tr}, func(i int) api.Object { return commitAt(i, other(tr)) }},
				"a parent":     {[]api.Object{tr, p}, func(i int) api.Object { return commitAt(i, other(tr), other(p)) }},
				"both parents": {[]api.Object{tr, p}, func(i int) api.Object { return commitAt(i, other(tr), other(p), second) }},
			} {
				o := apart(weak, c.linked, c.make)
				m := of(weak, append(c.linked, o)...)
				wantModel(t, what, m, namesOf(o))
				wantModel(t, what, m, ids{other(o)})
				wantModel(t, what, m, ids{keyOf(nameOf(o), weak)})
				wantModel(t, what, m, namesOf(c.linked...))
				if l := m.lists(namesOf(o)); at >= weak && len(l.reached) != len(m.all) || at < weak && (len(l.reached) != 1 || len(l.missing) < len(c.linked)) {
					t.Error(weak, at, what, short(l.reached), short(l.missing))
				}
			}
		}
	}
}

// Names that differ, but have the same key, are reached or missing once.
func TestNamesOfOneKey(t *testing.T) {
	x := blob("x")
	for weak := 1; weak < 32; weak++ {
		for at := weak; at < 32; at++ {
			key := keyOf(nameOf(x), weak)
			names := ids{nameOf(x), key, changedAt(key, at, 32), changedAt(nameOf(x), at, weak)}
			wantReached(t, "heads", of(weak, x), names, x)
			wantLists(t, "heads that are missing", of(weak).store(), names, lists{missing: ids{key}})
			for _, o := range []api.Object{
				apart(weak, []api.Object{x}, func(i int) api.Object { return treeBelow(strconv.Itoa(i), names...) }),
				apart(weak, []api.Object{x}, func(i int) api.Object { return commitAt(i, names[2], names[:2]...) }),
				apart(weak, []api.Object{x}, func(i int) api.Object { return commitAt(i, names[0], names[2:]...) }),
			} {
				wantReached(t, "links", of(weak, x, o), namesOf(o), x, o)
				wantLists(t, "links that are missing", of(weak, o).store(), append(namesOf(o), names...), lists{reached: of(weak, o).keys(), missing: ids{key}})
			}
		}
	}
}

// Each entry of a tree is a link, and no object has other links than its own.
func TestEntries(t *testing.T) {
	for n := range 13 {
		blobs := many(n)
		o := tree(namesOf(blobs...)...)
		wantReached(t, "all entries", of(32, append(blobs, o, blob("x"))...), namesOf(o), append(blobs, o)...)
		for i := range n {
			alone := of(32, o, blobs[i], blob("x"))
			want := lists{reached: of(32, o, blobs[i]).keys(), missing: of(32, slices.Delete(slices.Clone(blobs), i, i+1)...).keys(), garbage: of(32, blob("x")).keys()}
			wantLists(t, "one entry", alone.store(), namesOf(o), want)
			without := of(32, append(slices.Delete(slices.Clone(blobs), i, i+1), o)...)
			wantLists(t, "all but one entry", without.store(), namesOf(o), lists{reached: without.keys(), missing: of(32, blobs[i]).keys()})
		}
	}
	x := blob("x")
	for n := 1; n <= 12; n++ {
		o := tree(slices.Repeat(namesOf(x), n)...)
		wantReached(t, "the same blob", of(32, x, o), namesOf(o), x, o)
		wantLists(t, "the same blob, missing", of(32, o).store(), namesOf(o), lists{reached: namesOf(o), missing: namesOf(x)})
	}
	y := blob("y")
	for i := range 12 {
		l := slices.Repeat(namesOf(x), 12)
		l[i] = nameOf(y)
		o := tree(l...)
		wantReached(t, "two blobs", of(32, x, y, o), namesOf(o), x, y, o)
		wantLists(t, "two blobs, one missing", of(32, x, o).store(), namesOf(o), lists{reached: of(32, x, o).keys(), missing: namesOf(y)})
	}
}

// The Tree of a commit and each of its Parents are links.
func TestCommits(t *testing.T) {
	tr, p, q := tree(), commitAt(1, nameOf(tree())), commitAt(2, nameOf(tree()))
	for _, parents := range [][]api.Object{nil, {p}, {q}, {p, q}, {q, p}} {
		o := commitAt(7, nameOf(tr), namesOf(parents...)...)
		wantReached(t, "a commit", of(32, tr, p, q, o), namesOf(o), append(parents, tr, o)...)
		for i, id := range parents {
			m := of(32, tr, o, id)
			others := slices.Delete(slices.Clone(parents), i, i+1)
			wantLists(t, "one parent", m.store(), namesOf(o), lists{reached: m.keys(), missing: of(32, others...).keys()})
		}
		m := of(32, append(parents, o)...)
		wantLists(t, "no tree", m.store(), namesOf(o), lists{reached: m.keys(), missing: namesOf(tr)})
		wantLists(t, "alone", of(32, o).store(), namesOf(o), lists{reached: namesOf(o), missing: of(32, append(parents, tr)...).keys()})
	}
	// The same name in all places of a commit is one key.
	for _, id := range []api.ID{{}, {9}, nameOf(tr)} {
		o := commit(id, id)
		wantLists(t, "the same name", of(32, o).store(), namesOf(o), lists{reached: namesOf(o), missing: ids{id}})
	}
	// A name of zeros is one as all others are.
	wantLists(t, "a tree of zeros", of(32, commit(api.ID{})).store(), namesOf(commit(api.ID{})), lists{reached: namesOf(commit(api.ID{})), missing: ids{{}}})
	wantLists(t, "an entry of zeros", of(32, tree(api.ID{})).store(), namesOf(tree(api.ID{})), lists{reached: namesOf(tree(api.ID{})), missing: ids{{}}})
}

// A blob has no links, whatever its text says, nor has a tree one to a tree or a parent: an object whose key is 0 is linked by what has this name alone.
func TestNoOtherLinks(t *testing.T) {
	x := blob("x")
	id := nameOf(x)
	for _, text := range []string{"", string(id[:]), encoded(tree(id)), encoded(commit(id, id)), encoded(x)} {
		wantReached(t, "a text", of(32, x, blob(text)), namesOf(blob(text)), blob(text))
	}
	zero := blobAt(1, api.ID{})
	for _, o := range []api.Object{x, tree(), tree(id)} {
		m := of(1, zero, x)
		m.all[keyOf(nameOf(o), 1)] = o
		l := m.lists(namesOf(o))
		if wantModel(t, "the key 0", m, namesOf(o)); slices.Contains(l.reached, api.ID{}) || len(l.missing) > 0 {
			t.Error(brief(o), short(l.reached), short(l.missing))
		}
	}
	for _, o := range []api.Object{tree(id, api.ID{}), tree(api.ID{5: 1}), commit(api.ID{}), commit(id, api.ID{31: 1})} {
		m := of(1, zero, x, o)
		l := m.lists(namesOf(o))
		if wantModel(t, "the key 0", m, namesOf(o)); !slices.Contains(l.reached, api.ID{}) {
			t.Error(brief(o), short(l.reached))
		}
	}
}

// Links are followed whatever the kinds of the objects are.
func TestWrongLinksAreFollowed(t *testing.T) {
	x := blob("x")
	a := tree(nameOf(x))
	b := commit(nameOf(a))
	c := tree(nameOf(b))                         // a commit as a blob
	d := commit(nameOf(b))                       // a commit as a tree
	e := commit(nameOf(x))                       // a blob as a tree
	f := commit(nameOf(c), nameOf(x), nameOf(a)) // a blob and a tree as parents
	g := tree(nameOf(c), nameOf(a))              // trees as blobs
	m := of(32, x, a, b, c, d, e, f, g)
	wantReached(t, "c", m, namesOf(c), x, a, b, c)
	wantReached(t, "d", m, namesOf(d), x, a, b, d)
	wantReached(t, "e", m, namesOf(e), x, e)
	wantReached(t, "f", m, namesOf(f), x, a, b, c, f)
	wantReached(t, "g", m, namesOf(g), x, a, b, c, g)
	wantReached(t, "all", m, namesOf(d, e, f, g), x, a, b, c, d, e, f, g)
}

// chain are n commits, each with the ones as parents that lie so many places before it.
func chain(n int, back ...int) []api.Object {
	var l []api.Object
	for i := range n {
		var parents ids
		for _, k := range back {
			if i >= k {
				parents = append(parents, nameOf(l[i-k]))
			}
		}
		l = append(l, commitAt(i, nameOf(tree()), parents...))
	}
	return l
}

// Chains of parents: all commits before one are reached from it, and none behind it; where one is missing the chain ends.
func TestChains(t *testing.T) {
	for _, back := range [][]int{{1}, {1, 2}, {2, 1}} {
		for _, n := range []int{1, 2, 3, 10, 199} {
			l := chain(n, back...)
			m := of(32, append(l, tree())...)
			for i := range l {
				if n == 199 && i > 2 && i < 196 {
					continue
				}
				wantReached(t, "a chain", m, namesOf(l[i]), append(slices.Clone(l[:i+1]), tree())...)
				wantReached(t, "a chain", m, append(namesOf(l[:i+1]...), nameOf(tree())), append(slices.Clone(l[:i+1]), tree())...)
			}
		}
	}
	l := chain(200, 1)
	wantLists(t, "the longest chain", of(32, l...).store(), namesOf(l[199]), lists{reached: of(32, l...).keys(), missing: namesOf(tree())})
	l = chain(20, 1)
	for i := range 19 {
		m := of(32, append(slices.Delete(slices.Clone(l), i, i+1), tree())...)
		want := lists{reached: of(32, append(slices.Clone(l[i+1:]), tree())...).keys(), missing: namesOf(l[i])}
		if i > 0 {
			want.garbage = of(32, l[:i]...).keys()
		}
		wantLists(t, "a chain in two", m.store(), namesOf(l[19]), want)
	}
}

// With a few bytes of a name, objects may link themselves and each other.
func TestRings(t *testing.T) {
	for _, weak := range []int{1, 2} {
		k := api.ID{7}
		self := []api.Object{treeAt(weak, k, k), commitWith(weak, k, k), commitWith(weak, k, api.ID{9}, k), commitWith(weak, k, k, api.ID{7, 31: 1})}
		for _, o := range self {
			m := of(weak, o)
			wantModel(t, "itself", m, ids{k})
			wantModel(t, "itself", m, ids{{8}})
			wantModel(t, "itself, not reached", m, nil)
		}
	}
	key := func(i int) api.ID { return api.ID{byte(i)} }
	for _, n := range []int{2, 3, 7, 200} {
		var commits, trees, both []api.Object
		for i := range n {
			next := key((i + 1) % n)
			commits = append(commits, commitWith(1, key(i), api.ID{255}, next))
			trees = append(trees, treeAt(1, key(i), next))
			both = append(both, commitWith(1, key(i), next, key((i+n-1)%n)))
		}
		for i := range n {
			if i > 3 && i < 197 {
				continue
			}
			wantModel(t, "a ring of commits", of(1, commits...), ids{key(i)})
			wantReached(t, "a ring of trees", of(1, trees...), ids{key(i)}, trees...)
			wantReached(t, "a ring in both directions", of(1, both...), ids{key(i)}, both...)
			wantReached(t, "a ring of all kinds", of(1, append(slices.Clone(trees[:n/2]), both[n/2:]...)...), ids{key(i)}, append(slices.Clone(trees[:n/2]), both[n/2:]...)...)
			wantModel(t, "a ring without one", of(1, slices.Delete(slices.Clone(trees), i, i+1)...), ids{key((i + 1) % n)})
		}
	}
}

// Keys are ordered as lists of bytes, from 0 to 255, up to the last one.
func TestOrderOfKeys(t *testing.T) {
	r := rand.New(rand.NewPCG(12, 1))
	var in ids
	for _, first := range []byte{0, 1, 127, 128, 254, 255} {
		for _, last := range []byte{0, 1, 127, 128, 255} {
			in = append(in, api.ID{0: first, 15: last}, api.ID{0: first, 31: last})
		}
	}
	in = sortedKeys(in)
	for range 50 {
		heads := slices.Concat(in, in)
		r.Shuffle(len(heads), func(i, k int) { heads[i], heads[k] = heads[k], heads[i] })
		wantLists(t, "heads", of(32).store(), heads, lists{missing: in})
		var links []api.Object
		for at := 0; at < len(heads); at += 12 {
			links = append(links, tree(heads[at:min(at+12, len(heads))]...))
		}
		m := of(32, links...)
		wantLists(t, "links", m.store(), namesOf(links...), lists{reached: m.keys(), missing: in})
	}
	wantLists(t, "literal", of(32).store(), ids{{255}, {128}, {0, 1}, {127, 255}, {31: 255}, {1}, {31: 1}, {}}, lists{missing: ids{{}, {31: 1}, {31: 255}, {0, 1}, {1}, {127, 255}, {128}, {255}}})
	wantLists(t, "weak", of(1).store(), ids{{255, 1}, {128}, {0, 1}, {127, 255}, {128, 255}, {0, 255}, {31: 1}}, lists{missing: ids{{}, {127}, {128}, {255}}})
}

// As many objects, links and missing keys as there can be.
func TestGreatestStores(t *testing.T) {
	var trees, blobs []api.Object
	for i := range 200 {
		var l ids
		for k := range 12 {
			l = append(l, api.ID{byte(i), byte(k), 31: 200})
		}
		trees = append(trees, tree(l...))
		blobs = append(blobs, blob(strings.Repeat(string(rune('a'+i%26)), 1990)+string(rune('a'+i/26))))
	}
	m := of(32, trees...)
	l := m.lists(namesOf(trees...))
	if wantModel(t, "trees", m, namesOf(trees...)); len(l.missing) != 2400 || len(l.reached) != 200 {
		t.Error(len(l.missing), len(l.reached))
	}
	wantModel(t, "trees, and heads that are missing", m, append(namesOf(trees[:100]...), namesOf(many(100)...)...))
	wantReached(t, "blobs", of(32, blobs...), namesOf(blobs...), blobs...)
	wantReached(t, "a few blobs", of(32, blobs...), namesOf(blobs[50:60]...), blobs[50:60]...)
}
