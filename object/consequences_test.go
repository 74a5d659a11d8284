package object_test

import (
	"math/rand/v2"
	"slices"
	"testing"

	"siding/api"
	"siding/object"
)

// P9.5

func TestRandomObjects(t *testing.T) {
	r := rand.New(rand.NewPCG(9, 2))
	for range 10000 {
		o := randomObject(r)
		b, e := object.Encode(o)
		if e != api.OK {
			t.Fatal(brief(o), e)
		}
		wantObject(t, "random", o, string(b))
		wantObject(t, "random, made with Go's library", o, encoded(o))
	}
}

// Different objects have different bytes and names, and the same objects the same ones.
func TestPairsOfObjects(t *testing.T) {
	r := rand.New(rand.NewPCG(9, 3))
	l := someObjects()
	for range 400 {
		l = append(l, randomObject(r))
	}
	equal := 0
	for _, a := range l {
		x, _ := object.Encode(a)
		first, _ := object.Name(a)
		for _, b := range l {
			y, _ := object.Encode(b)
			second, _ := object.Name(b)
			if slices.Equal(x, y) != same(a, b) || (first == second) != same(a, b) {
				t.Error(brief(a), brief(b))
			}
			if same(a, b) {
				equal++
			}
		}
	}
	if equal < 2*len(l) || equal > len(l)*len(l)/2 {
		t.Error(equal, "pairs are equal")
	}
}

func TestRandomBytes(t *testing.T) {
	r := rand.New(rand.NewPCG(9, 4))
	valid := 0
	for range 50000 {
		b := []byte(encoded(randomObject(r)))
		for range r.IntN(3) {
			at := r.IntN(len(b))
			switch r.IntN(3) {
			case 0:
				b[at] = byte(r.IntN(6))
			case 1:
				b = slices.Insert(b, at, byte(r.IntN(6)))
			case 2:
				b = slices.Delete(b, at, at+1)
			}
			if len(b) == 0 {
				break
			}
		}
		wantDecoded(t, "random", string(b))
		o, e := object.Decode(b)
		if e != api.OK {
			continue
		}
		valid++
		if got, e := object.Encode(o); !slices.Equal(got, b) || e != api.OK {
			t.Error("encode of decode", brief(b), brief(got), e)
		}
	}
	if valid < 10000 {
		t.Error("only", valid, "of the random bytes are those of an object")
	}
}

// What Tree makes of files has the files; equal files have equal trees, and other files have other ones.
func TestRandomTrees(t *testing.T) {
	r := rand.New(rand.NewPCG(9, 5))
	var all [][]api.File
	for range 300 {
		all = append(all, randomFiles(r, 2), randomFiles(r, 12))
	}
	var names []api.ID
	for _, l := range all {
		wantTree(t, "random", l)
		d, objects, e := object.Tree(l)
		if top, also := object.Name(objects[0]); top != d || e != api.OK || also != api.OK {
			t.Error(top, d, e, also)
		}
		shuffled := slices.Concat(objects[1:], objects[1:])
		r.Shuffle(len(shuffled), func(i, k int) { shuffled[i], shuffled[k] = shuffled[k], shuffled[i] })
		wantFiles(t, "shuffled", objects[0], shuffled, l, api.OK)
		names = append(names, d)
	}
	equal := 0
	for i := range all {
		for k := range i {
			agree := slices.EqualFunc(all[i], all[k], sameFile)
			if (names[i] == names[k]) != agree {
				t.Error(brief(all[i]), brief(all[k]))
			}
			if agree {
				equal++
			}
		}
	}
	if equal < 100 {
		t.Error("only", equal, "pairs of trees are equal")
	}
}

// A text that is in several files has one blob: leaving out any blob leaves out a file.
func TestEachBlobIsNeeded(t *testing.T) {
	r := rand.New(rand.NewPCG(9, 6))
	for range 500 {
		l := randomFiles(r, 12)
		_, objects, _ := object.Tree(l)
		texts := map[string]bool{}
		for _, f := range l {
			texts[string(f.Text)] = true
		}
		if len(objects) != len(texts)+1 {
			t.Error(len(objects), len(texts))
		}
		for i := range objects[1:] {
			left := slices.Delete(slices.Clone(objects[1:]), i, i+1)
			wantFiles(t, "one blob less", objects[0], left, nil, api.ErrNone)
		}
	}
}

// Examples of the chapter.
func TestExamples(t *testing.T) {
	wantObject(t, "the blob a", blob("a"), string([]byte{3, 2, 1, 2, 2, 1, 97}))
	wantObject(t, "the tree without files", tree(), string([]byte{3, 2, 1, 4, 3, 0}))
	_, l, e := object.Tree([]api.File{file("a", "x"), file("b", "x")})
	if e != api.OK || len(l) != 2 || len(l[0].Tree) != 2 || l[0].Tree[0].Blob != l[0].Tree[1].Blob || !same(l[1], blob("x")) {
		t.Error(brief(l), e)
	}
	for _, p := range []string{"a//b", "/a", "a/..", "a b"} {
		wantPath(t, p, false)
	}
	for _, p := range []string{".a", "a..b", "a/.b"} {
		wantPath(t, p, true)
	}
}
