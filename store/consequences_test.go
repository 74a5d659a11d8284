package store_test

import (
	"maps"
	"math/rand/v2"
	"slices"
	"testing"

	"siding/api"
	"siding/store"
)

// P10.5

// model is what a store has: bytes by keys.
type model struct {
	weak int
	all  map[string]string
}

// put is the model with an object.
func (m model) put(o api.Object) (model, api.Errno) {
	key := keyOf(nameOf(o), m.weak)
	b, found := m.all[string(key[:])]
	switch {
	case found && b != encoded(o):
		return m, api.ErrSame
	case found:
		return m, api.OK
	case len(m.all) == 200:
		return m, api.ErrMany
	}
	m.all = maps.Clone(m.all)
	m.all[string(key[:])] = encoded(o)
	return m, api.OK
}

// randomModel has some of n objects.
func randomModel(r *rand.Rand, weak, n int) model {
	m := model{weak, map[string]string{}}
	for _, i := range r.Perm(n)[:r.IntN(n)] {
		m, _ = m.put(numbered(i))
	}
	return m
}

// wantModel fails unless a store is what a model says, and has all objects of it.
func wantModel(t *testing.T, what string, s api.Store, m model) {
	t.Helper()
	if want := laid(m.weak, m.all); !sameStore(s, want) {
		t.Errorf("%s: %s, want %s", what, brief(s), brief(want))
	}
	for key, b := range m.all {
		o, e := store.Get(s, api.ID([]byte(key)))
		if encoded(o) != b || e != api.OK {
			t.Errorf("%s: get %s %d, want %s", what, brief(o), e, brief(b))
		}
	}
}

// Objects that are put at random, until a store is full or has no room without a clash.
func TestRandomPuts(t *testing.T) {
	r := rand.New(rand.NewPCG(10, 1))
	for _, c := range []struct{ weak, n, puts, every int }{{1, 600, 400, 40}, {1, 40, 100, 1}, {2, 60, 100, 10}, {3, 30, 100, 1}, {32, 220, 600, 30}, {32, 20, 100, 1}} {
		seen := map[api.Errno]int{}
		m := model{c.weak, map[string]string{}}
		s, _ := store.New(c.weak)
		for i := range c.puts {
			o := numbered(r.IntN(c.n))
			next, err := m.put(o)
			seen[err]++
			if err != api.OK {
				wantNoPut(t, "random", s, o, err)
				continue
			}
			m = next
			got, key, e := store.Put(s, o)
			if key != keyOf(nameOf(o), c.weak) || e != api.OK {
				t.Fatal(brief(o), key, e)
			}
			if s = got; i%c.every == 0 {
				wantModel(t, "random", s, m)
				wantPut(t, "again", s, o, s)
			}
		}
		wantModel(t, "at last", s, m)
		if c.weak == 1 && seen[api.ErrSame] == 0 || c.n == 220 && seen[api.ErrMany] == 0 || seen[api.OK] == 0 {
			t.Error(c, seen)
		}
	}
}

// The order of putting does not matter.
func TestOrderOfPutting(t *testing.T) {
	r := rand.New(rand.NewPCG(10, 2))
	for _, weak := range []int{1, 2, 32} {
		for range 30 {
			l := apart(weak, 12)
			want := made(weak, l...)
			l = append(l, l[:3]...)
			r.Shuffle(len(l), func(i, k int) { l[i], l[k] = l[k], l[i] })
			s, _ := store.New(weak)
			for _, o := range l {
				s, _, _ = store.Put(s, o)
			}
			if !sameStore(s, want) {
				t.Error(brief(s), brief(want))
			}
		}
	}
}

// A store that had an error takes other objects as before.
func TestPuttingAfterErrors(t *testing.T) {
	l := clashing(1, 3)
	s, _ := store.New(1)
	s, _, _ = store.Put(s, l[0])
	for range 3 {
		wantNoPut(t, "a clash", s, l[1], api.ErrSame)
		wantNoPut(t, "a clash", s, l[2], api.ErrSame)
		wantNoPut(t, "no object", s, api.Object{}, api.ErrBad)
		wantPut(t, "the same", s, l[0], made(1, l[0]))
		wantGet(t, "the same", s, nameOf(l[1]), l[0])
	}
}

// Joining is putting all objects of the second store in their order, and does not depend on the order of the two.
func TestRandomJoins(t *testing.T) {
	r := rand.New(rand.NewPCG(10, 3))
	seen := map[api.Errno]int{}
	for _, c := range []struct{ weak, n, times int }{{1, 12, 300}, {1, 30, 200}, {1, 280, 30}, {2, 30, 100}, {32, 30, 200}, {32, 280, 30}} {
		for range c.times {
			a, b := randomModel(r, c.weak, c.n), randomModel(r, c.weak, c.n)
			s, u := laid(c.weak, a.all), laid(c.weak, b.all)
			want, err := joined(a, b)
			seen[err]++
			if err == api.OK {
				wantBoth(t, "random", s, u, laid(c.weak, want.all))
				continue
			}
			wantJoin(t, "random", s, u, api.Store{}, err)
			_, err = joined(b, a)
			wantJoin(t, "random, in the other order", u, s, api.Store{}, err)
		}
	}
	if seen[api.OK] < 100 || seen[api.ErrSame] < 100 || seen[api.ErrMany] < 10 {
		t.Error(seen)
	}
}

// joined are two models, or the error of the first object of the second one that has one.
func joined(a, b model) (model, api.Errno) {
	for _, key := range slices.Sorted(maps.Keys(b.all)) {
		there, found := a.all[key]
		if found && there != b.all[key] {
			return model{}, api.ErrSame
		}
		if !found && len(a.all) == 200 {
			return model{}, api.ErrMany
		}
		a.all = maps.Clone(a.all)
		a.all[key] = b.all[key]
	}
	return a, api.OK
}

// Three stores that are joined are the same, whichever two of them are joined first.
func TestJoinThree(t *testing.T) {
	r := rand.New(rand.NewPCG(10, 4))
	for range 100 {
		l := [3]api.Store{}
		for i := range l {
			l[i] = laid(32, randomModel(r, 32, 20).all)
		}
		first, _ := store.Join(l[0], l[1])
		second, _ := store.Join(l[1], l[2])
		x, e := store.Join(first, l[2])
		y, f := store.Join(l[0], second)
		if !sameStore(x, y) || e != api.OK || f != api.OK {
			t.Error(brief(x), brief(y), e, f)
		}
	}
}

// Whatever is changed in a valid store, Check says whether the definition still holds.
func TestRandomStores(t *testing.T) {
	r := rand.New(rand.NewPCG(10, 5))
	valid := 0
	for range 5000 {
		weak := []int{1, 2, 32}[r.IntN(3)]
		s := laid(weak, randomModel(r, weak, 6).all)
		for range r.IntN(3) {
			s = changed(r, s)
		}
		if isValid(s) {
			valid++
			wantValid(t, "random", s)
			wantBoth(t, "random", s, s, s)
		} else if e := store.Check(s); e != api.ErrBad {
			t.Error(brief(s), e)
		}
	}
	if valid < 1000 || valid > 4000 {
		t.Error(valid, "random stores are valid")
	}
}

// changed is a store of which something was changed.
func changed(r *rand.Rand, s api.Store) api.Store {
	o := numbered(r.IntN(6))
	key, b := keyOf(nameOf(o), min(s.Weak, 32)), []byte(encoded(o))
	i, k := r.IntN(len(s.Keys)+1), r.IntN(len(s.Objs)+1)
	switch r.IntN(6) {
	case 0:
		s.Keys, s.Objs = slices.Insert(s.Keys, i, key), slices.Insert(s.Objs, min(i, len(s.Objs)), b)
	case 1:
		s.Keys = slices.Insert(s.Keys, i, key)
	case 2:
		s.Objs = slices.Insert(s.Objs, k, b)
	case 3:
		s.Keys = slices.Delete(s.Keys, i, min(i+1, len(s.Keys)))
	case 4:
		s.Objs = slices.Delete(s.Objs, k, min(k+1, len(s.Objs)))
	case 5:
		s.Weak = r.IntN(3) + s.Weak - 1
	}
	return s
}

// isValid is the chapter's definition of a store that has no bytes but those of numbered objects, written in another way.
func isValid(s api.Store) bool {
	if s.Weak < 1 || s.Weak > 32 || len(s.Keys) != len(s.Objs) || len(s.Keys) > 200 {
		return false
	}
	m := model{s.Weak, map[string]string{}}
	for i, b := range s.Objs {
		n := slices.IndexFunc(apart(32, 6), func(o api.Object) bool { return encoded(o) == string(b) })
		if n < 0 || keyOf(nameOf(numbered(n)), s.Weak) != s.Keys[i] {
			return false
		}
		m.all[string(s.Keys[i][:])] = string(b)
	}
	return sameStore(s, laid(s.Weak, m.all))
}

// Examples of the chapter.
func TestExamples(t *testing.T) {
	empty := blob("")
	s, e := store.New(1)
	if e != api.OK {
		t.Fatal(e)
	}
	s, key, e := store.Put(s, empty)
	if e != api.OK || key != (api.ID{0: 0x96}) {
		t.Fatal(key, e)
	}
	for first := range 256 {
		for _, others := range []byte{0, 1, 0x96, 255} {
			id := api.ID{0: byte(first)}
			for i := range id[1:] {
				id[1+i] = others
			}
			if first == 0x96 {
				wantGet(t, "the same first byte", s, id, empty)
			} else {
				wantNone(t, "another first byte", s, id)
			}
		}
	}
	wantNoPut(t, "the same first byte", s, beginning("\x96", empty), api.ErrSame)
	wantPut(t, "another first byte", s, beginning("\x97"), made(1, empty, beginning("\x97")))
}
