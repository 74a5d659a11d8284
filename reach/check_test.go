package reach_test

import (
	"math"
	"slices"
	"strconv"
	"strings"
	"testing"

	"siding/api"
	"siding/reach"
)

// badStores are not valid, for each part of layer 10's definition.
func badStores() map[string]api.Store {
	x, y := blob("x"), blob("y")
	all := map[string]api.Store{
		"nothing":             {},
		"a key more":          {Weak: 32, Keys: ids{{}}},
		"an object more":      {Weak: 32, Objs: [][]byte{[]byte(encoded(x))}},
		"an object of none":   {Weak: 32, Keys: namesOf(x), Objs: [][]byte{nil}},
		"another object":      {Weak: 32, Keys: namesOf(x), Objs: [][]byte{[]byte(encoded(y))}},
		"a name, not a key":   {Weak: 31, Keys: namesOf(x), Objs: [][]byte{[]byte(encoded(x))}},
		"a key, not a name":   {Weak: 32, Keys: ids{keyOf(nameOf(x), 31)}, Objs: [][]byte{[]byte(encoded(x))}},
		"keys out of order":   {Weak: 32, Keys: namesOf(x, y), Objs: [][]byte{[]byte(encoded(x)), []byte(encoded(y))}},
		"a key twice":         {Weak: 32, Keys: namesOf(x, x), Objs: [][]byte{[]byte(encoded(x)), []byte(encoded(x))}},
		"too many objects":    of(32, many(201)...).store(),
		"a text too long":     unchecked(blob(strings.Repeat("a", 2001))),
		"a tree out of order": unchecked(api.Object{Kind: 2, Tree: []api.Entry{{Path: "b"}, {Path: "a"}}}),
		"a commit too late":   unchecked(commitAt(1000001, api.ID{})),
		"a parent twice":      unchecked(commit(api.ID{}, api.ID{1}, api.ID{1})),
	}
	for _, weak := range []int{math.MinInt, -32, -1, 0, 33, 64, 256 + 1, 1<<32 + 32, math.MaxInt} {
		all["Weak "+strconv.Itoa(weak)] = api.Store{Weak: weak, Keys: namesOf(x), Objs: [][]byte{[]byte(encoded(x))}}
		all["nothing, and Weak "+strconv.Itoa(weak)] = api.Store{Weak: weak}
	}
	return all
}

// unchecked is a store of an object that is not valid.
func unchecked(o api.Object) api.Store { return of(32, o).store() }

// many are n blobs.
func many(n int) []api.Object {
	var l []api.Object
	for i := range n {
		l = append(l, numbered(i))
	}
	return l
}

// P12.1, P12.2, P12.3

// The error of a store comes first, however many heads there are.
func TestBadStores(t *testing.T) {
	x := nameOf(blob("x"))
	for what, s := range badStores() {
		for _, heads := range []ids{nil, {x}, {{}}, s.Keys, slices.Repeat(ids{x}, 200), slices.Repeat(ids{x}, 201), make(ids, 5000)} {
			wantError(t, what, s, heads, api.ErrBad)
		}
		if got, e := reach.Wrong(s); len(got) > 0 || e != api.ErrBad {
			t.Errorf("%s: wrong %s %d", what, short(got), e)
		}
	}
}

// What is not valid is found wherever it lies, also in what is not reached.
func TestBadObjectAnywhere(t *testing.T) {
	l := []api.Object{blob("x"), tree(nameOf(blob("x"))), commit(nameOf(tree(nameOf(blob("x")))))}
	s := of(32, l...).store()
	for i := range s.Objs {
		for k := range s.Objs[i] {
			c := s
			c.Objs = slices.Clone(s.Objs)
			c.Objs[i] = slices.Clone(s.Objs[i])
			c.Objs[i][k] ^= 1
			for _, heads := range []ids{nil, namesOf(l[0]), namesOf(l[2])} {
				wantError(t, "a bit changed", c, heads, api.ErrBad)
			}
			if got, e := reach.Wrong(c); len(got) > 0 || e != api.ErrBad {
				t.Errorf("a bit changed: wrong %s %d", short(got), e)
			}
		}
	}
}

func TestTooManyHeads(t *testing.T) {
	x := blob("x")
	for _, m := range []model{of(1), of(32), of(1, x), of(32, x), of(32, many(200)...)} {
		s := m.store()
		for _, n := range []int{201, 202, 255, 256, 257, 400, 512, 1000, 1<<16 + 1} {
			wantError(t, "equal heads", s, slices.Repeat(namesOf(x), n), api.ErrMany)
			wantError(t, "missing heads", s, make(ids, n), api.ErrMany)
		}
		wantError(t, "different heads", s, namesOf(many(201)...), api.ErrMany)
		wantError(t, "another head behind those of all objects", s, append(namesOf(many(200)...), api.ID{1}), api.ErrMany)
	}
}

// As many heads as there may be: they count, whether they are equal or not, and whether they are missing or not.
func TestMostHeads(t *testing.T) {
	x := blob("x")
	for _, weak := range []int{1, 2, 32} {
		wantLists(t, "equal heads", of(weak, x).store(), slices.Repeat(namesOf(x), 200), lists{reached: of(weak, x).keys()})
		wantLists(t, "a missing head", of(weak, x).store(), make(ids, 200), lists{missing: ids{{}}, garbage: of(weak, x).keys()})
		wantModel(t, "all of nothing", of(weak), namesOf(many(200)...))
		wantModel(t, "all but one", of(weak, x), namesOf(append(many(199), x)...))
	}
	all := of(32, many(200)...)
	wantLists(t, "all", all.store(), namesOf(many(200)...), lists{reached: all.keys()})
	wantLists(t, "all but one", all.store(), append(namesOf(many(199)...), api.ID{}), lists{all.lists(namesOf(many(199)...)).reached, ids{{}}, of(32, numbered(199)).keys()})
	wantLists(t, "none", of(32).store(), namesOf(many(200)...), lists{missing: all.keys()})
}
