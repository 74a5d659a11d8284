package reach_test

import (
	"slices"
	"strconv"
	"testing"

	"siding/api"
)

// P12.3

// Each place of a link, with an object of each kind there, or with none.
func TestWrongKinds(t *testing.T) {
	others := []api.Object{blob("x"), tree(), commit(api.ID{1})}
	none := api.ID{2}
	for _, weak := range []int{1, 2, 31, 32} {
		for i, o := range others {
			for n, makes := range [][]func(i int, id api.ID) api.Object{
				{
					func(i int, id api.ID) api.Object { return treeBelow(strconv.Itoa(i), id) },
					func(i int, id api.ID) api.Object { return treeBelow(strconv.Itoa(i), none, id) },
					func(i int, id api.ID) api.Object { return treeBelow(strconv.Itoa(i), id, none) },
				}, {
					func(i int, id api.ID) api.Object { return commitAt(i, id) },
					func(i int, id api.ID) api.Object { return commitAt(i, id, none) },
				}, {
					func(i int, id api.ID) api.Object { return commitAt(i, none, id) },
					func(i int, id api.ID) api.Object { return commitAt(i, none, id, none) },
					func(i int, id api.ID) api.Object { return commitAt(i, none, none, id) },
				},
			} {
				for _, make := range makes {
					l := apart(weak, append(others, blob("none")), func(k int) api.Object { return make(k, nameOf(o)) })
					if m := of(weak, append(others, l)...); i == n {
						wantWrong(t, "the right kind", m)
					} else {
						wantWrong(t, "another kind", m, l)
					}
					wantWrong(t, "missing", of(weak, append(slices.Delete(slices.Clone(others), i, i+1), l)...))
					wantWrong(t, "alone", of(weak, l))
				}
			}
		}
	}
}

func TestNothingIsWrong(t *testing.T) {
	for weak := 1; weak <= 32; weak++ {
		wantWrong(t, "nothing", of(weak))
		wantWrong(t, "a blob", of(weak, blob("x")))
		wantWrong(t, "a tree without entries", of(weak, tree()))
		wantWrong(t, "a commit of nothing", of(weak, commit(api.ID{})))
	}
	wantWrong(t, "blobs", of(32, many(200)...))
	wantWrong(t, "a chain", of(32, append(chain(199, 1, 2), tree())...))
	wantWrong(t, "a chain without its tree", of(32, chain(200, 2, 1)...))
}

// One wrong link is enough, in each of the places of an object with right ones.
func TestOneWrongLink(t *testing.T) {
	blobs := many(12)
	tr, c := tree(), commit(api.ID{})
	for i := range blobs {
		for _, bad := range []api.Object{tr, c} {
			names := namesOf(blobs...)
			names[i] = nameOf(bad)
			o := tree(names...)
			wantWrong(t, "an entry", of(32, append(blobs, tr, c, o)...), o)
			wantWrong(t, "an entry, and the others are missing", of(32, tr, c, o), o)
			wantWrong(t, "an entry that is missing", of(32, append(blobs, o)...))
		}
	}
	p, q, x := commitAt(1, nameOf(tr)), commitAt(2, nameOf(tr)), blobs[0]
	for _, l := range []struct {
		o       api.Object
		isWrong bool
	}{
		{commitAt(9, nameOf(tr), nameOf(p), nameOf(q)), false},
		{commitAt(9, nameOf(x), nameOf(p), nameOf(q)), true},
		{commitAt(9, nameOf(p), nameOf(p), nameOf(q)), true},
		{commitAt(9, nameOf(tr), nameOf(x), nameOf(q)), true},
		{commitAt(9, nameOf(tr), nameOf(p), nameOf(x)), true},
		{commitAt(9, nameOf(tr), nameOf(tr), nameOf(q)), true},
		{commitAt(9, nameOf(tr), nameOf(p), nameOf(tr)), true},
		{commitAt(9, nameOf(x), nameOf(tr), nameOf(x)), true},
	} {
		m := of(32, x, tr, p, q, l.o)
		if l.isWrong {
			wantWrong(t, "a commit", m, l.o)
		} else {
			wantWrong(t, "a commit", m)
		}
	}
}

// What is wrong need not be reached, and what links it is not wrong for that.
func TestWrongBehindOthers(t *testing.T) {
	x := blob("x")
	bad := tree(nameOf(tree()))
	first := commitAt(1, nameOf(bad))
	second := commitAt(2, nameOf(bad), nameOf(first))
	m := of(32, x, tree(), bad, first, second)
	wantWrong(t, "a tree", m, bad)
	worse := commitAt(3, nameOf(first), nameOf(x))
	last := commitAt(4, nameOf(tree()), nameOf(worse))
	wantWrong(t, "a tree and a commit", of(32, x, tree(), bad, first, second, worse, last), bad, worse)
	wantModel(t, "both are reached", of(32, x, tree(), bad, first, second, worse, last), namesOf(last))
}

// The keys of what is wrong are in increasing order.
func TestManyWrong(t *testing.T) {
	tr := tree()
	var l []api.Object
	for i := range 199 {
		l = append(l, commitAt(i, api.ID{1}, nameOf(tr)))
	}
	wantWrong(t, "commits", of(32, append(l, tr)...), l...)
	l = nil
	for i := range 99 {
		l = append(l, treeBelow(strconv.Itoa(i), nameOf(tr)))
	}
	wantWrong(t, "trees beside blobs", of(32, append(append(many(100), tr), l...)...), l...)
}

// With a few bytes of a name, an object may link itself: of a commit, the Tree is wrong, and a parent is not.
func TestWrongSelf(t *testing.T) {
	k := api.ID{7}
	for _, weak := range []int{1, 2} {
		for _, o := range []api.Object{
			treeAt(weak, k, k),
			treeAt(weak, k, api.ID{8}, k),
			commitWith(weak, k, k),
			commitWith(weak, k, k, k),
			commitWith(weak, k, api.ID{7, 31: 1}, api.ID{8}),
		} {
			wantWrong(t, "itself", of(weak, o), o)
		}
		for _, o := range []api.Object{
			blobAt(weak, k),
			treeAt(weak, k, api.ID{8}),
			commitWith(weak, k, api.ID{8}, k),
			commitWith(weak, k, api.ID{8}, k, api.ID{7, 31: 1}),
			commitWith(weak, k, api.ID{8}, api.ID{8}),
		} {
			wantWrong(t, "itself", of(weak, o))
		}
	}
}

// What counts of a link is its key: the object there may be that of another name.
func TestWrongNames(t *testing.T) {
	for weak := 1; weak <= 32; weak++ {
		tr := tree()
		for at := range 32 {
			id := changedAt(nameOf(tr), at, weak)
			l := apart(weak, []api.Object{tr}, func(i int) api.Object { return treeBelow(strconv.Itoa(i), id) })
			c := apart(weak, []api.Object{tr}, func(i int) api.Object { return commitAt(i, api.ID{2}, id) })
			right := apart(weak, []api.Object{tr}, func(i int) api.Object { return commitAt(i, id) })
			if at >= weak {
				wantWrong(t, "the same key", of(weak, tr, l), l)
				wantWrong(t, "the same key", of(weak, tr, c), c)
			} else {
				wantWrong(t, "another key", of(weak, tr, l))
				wantWrong(t, "another key", of(weak, tr, c))
			}
			wantWrong(t, "a tree", of(weak, tr, right))
		}
	}
}
