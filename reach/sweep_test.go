package reach_test

import (
	"testing"

	"siding/api"
	"siding/reach"
	"siding/store"
)

// P12.2

func wantSweep(t *testing.T, what string, s api.Store, heads ids, want api.Store) {
	t.Helper()
	got, e := reach.Sweep(s, heads)
	if !sameStore(got, want) || e != api.OK {
		t.Errorf("%s: swept %s %d, want %s", what, brief(got), e, brief(want))
	}
	if e := store.Check(got); e != api.OK {
		t.Errorf("%s: swept %s, which is not valid", what, brief(got))
	}
}

func TestSweep(t *testing.T) {
	x, y := blob("x"), blob("y")
	tr := tree(nameOf(x))
	c := commit(nameOf(tr))
	for _, weak := range []int{1, 2, 31, 32} {
		s := of(weak, x, y, tr, c).store()
		wantSweep(t, "the commit", s, namesOf(c), of(weak, x, tr, c).store())
		wantSweep(t, "the tree", s, namesOf(tr), of(weak, x, tr).store())
		wantSweep(t, "a blob", s, namesOf(x), of(weak, x).store())
		wantSweep(t, "the other blob", s, namesOf(y), of(weak, y).store())
		wantSweep(t, "both blobs", s, namesOf(y, x), of(weak, x, y).store())
		wantSweep(t, "all", s, namesOf(y, c), s)
		wantSweep(t, "no head", s, nil, api.Store{Weak: weak})
		wantSweep(t, "a head that is missing", s, ids{{}}, api.Store{Weak: weak})
		wantSweep(t, "a link that is missing", of(weak, y, tr, c).store(), namesOf(c), of(weak, tr, c).store())
	}
}

// A swept store has the Weak of the store, also if nothing is kept.
func TestSweepKeepsWeak(t *testing.T) {
	for weak := 1; weak <= 32; weak++ {
		wantSweep(t, "nothing", of(weak).store(), nil, api.Store{Weak: weak})
		wantSweep(t, "all is garbage", of(weak, blob("x")).store(), nil, api.Store{Weak: weak})
		wantSweep(t, "no garbage", of(weak, blob("x")).store(), namesOf(blob("x")), of(weak, blob("x")).store())
	}
}

// Each object alone is kept, or is garbage, in each place of a store.
func TestSweepEachPlace(t *testing.T) {
	l := many(30)
	s := of(32, l...).store()
	for i := range l {
		wantSweep(t, "one", s, namesOf(l[i]), of(32, l[i]).store())
		others := append(append([]api.Object{}, l[:i]...), l[i+1:]...)
		wantSweep(t, "all but one", s, namesOf(others...), of(32, others...).store())
	}
	full := of(32, many(200)...).store()
	wantSweep(t, "a full store", full, namesOf(many(200)...), full)
	wantSweep(t, "a few of a full store", full, namesOf(l...), s)
}
