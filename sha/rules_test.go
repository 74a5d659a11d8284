package sha_test

import (
	"bytes"
	"math"
	"strings"
	"testing"

	"siding/api"
	"siding/sha"
)

// memory is where arguments lie: each slice has bytes of others behind its length.
type memory struct{ all []byte }

func newMemory() memory { return memory{filled(600)} }

func (m memory) bytes(n int) []byte { return m.all[200 : 200+n] }

func (m memory) hash(n int) api.Hash {
	return api.Hash{Words: someWords[1], Rest: m.all[:n%64], N: n}
}

// result is all that a call returns, but for an error.
type result struct {
	h     api.Hash
	b     []byte
	id    api.ID
	words [8]uint32
}

func (r result) equal(other result) bool {
	return same(r.h, other.h) && bytes.Equal(r.b, other.b) && r.id == other.id && r.words == other.words
}

// calls are all functions, and whether they have an error.
func calls() map[string]func(m memory) (result, bool) {
	hash := func(h api.Hash, e api.Errno) (result, bool) { return result{h: h}, e != api.OK }
	id := func(id api.ID, e api.Errno) (result, bool) { return result{id: id}, e != api.OK }
	pad := func(b []byte, e api.Errno) (result, bool) { return result{b: b}, e != api.OK }
	words := func(words [8]uint32, e api.Errno) (result, bool) { return result{words: words}, e != api.OK }
	tooMany := func(m memory) []byte { return append(m.bytes(5), make([]byte, api.MaxHash)...) }
	return map[string]func(m memory) (result, bool){
		"start":                   func(m memory) (result, bool) { return hash(sha.Start(), api.OK) },
		"sum":                     func(m memory) (result, bool) { return id(sha.Sum(m.bytes(100))) },
		"sum of no bytes":         func(m memory) (result, bool) { return id(sha.Sum(m.bytes(0))) },
		"sum of 55 bytes":         func(m memory) (result, bool) { return id(sha.Sum(m.bytes(55))) },
		"sum of a block":          func(m memory) (result, bool) { return id(sha.Sum(m.bytes(64))) },
		"write":                   func(m memory) (result, bool) { return hash(sha.Write(m.hash(70), m.bytes(5))) },
		"write behind no rest":    func(m memory) (result, bool) { return hash(sha.Write(m.hash(128), m.bytes(5))) },
		"write behind no bytes":   func(m memory) (result, bool) { return hash(sha.Write(m.hash(0), m.bytes(63))) },
		"write nothing":           func(m memory) (result, bool) { return hash(sha.Write(m.hash(70), m.bytes(0))) },
		"write a block":           func(m memory) (result, bool) { return hash(sha.Write(m.hash(10), m.bytes(64))) },
		"write a block alone":     func(m memory) (result, bool) { return hash(sha.Write(m.hash(64), m.bytes(64))) },
		"write up to a block":     func(m memory) (result, bool) { return hash(sha.Write(m.hash(10), m.bytes(54))) },
		"write beyond a block":    func(m memory) (result, bool) { return hash(sha.Write(m.hash(10), m.bytes(300))) },
		"write its own bytes":     func(m memory) (result, bool) { return hash(sha.Write(m.hash(10), m.all[5:90])) },
		"finish":                  func(m memory) (result, bool) { return id(sha.Finish(m.hash(70))) },
		"finish without a rest":   func(m memory) (result, bool) { return id(sha.Finish(m.hash(64))) },
		"finish with two blocks":  func(m memory) (result, bool) { return id(sha.Finish(m.hash(60))) },
		"pad":                     func(m memory) (result, bool) { return pad(sha.Pad(56)) },
		"pad of no bytes":         func(m memory) (result, bool) { return pad(sha.Pad(0)) },
		"block":                   func(m memory) (result, bool) { return words(sha.Block(someWords[2], m.bytes(64))) },
		"error: sum":              func(m memory) (result, bool) { return id(sha.Sum(tooMany(m))) },
		"error: write too many":   func(m memory) (result, bool) { return hash(sha.Write(m.hash(api.MaxHash-4), m.bytes(5))) },
		"error: write, too short": func(m memory) (result, bool) { return hash(sha.Write(api.Hash{N: 70, Rest: m.all[:5]}, m.bytes(5))) },
		"error: write, too long":  func(m memory) (result, bool) { return hash(sha.Write(api.Hash{N: 64, Rest: m.all[:64]}, m.bytes(5))) },
		"error: finish":           func(m memory) (result, bool) { return id(sha.Finish(api.Hash{N: 70, Rest: m.all[:7]})) },
		"error: pad":              func(m memory) (result, bool) { return pad(sha.Pad(-1)) },
		"error: block":            func(m memory) (result, bool) { return words(sha.Block(someWords[2], m.bytes(65))) },
	}
}

// scribble changes all of a slice, also behind its length.
func scribble(b []byte) {
	b = b[:cap(b)]
	for i := range b {
		b[i] ^= 0xff
	}
}

// R1, R2

func TestArgumentsStay(t *testing.T) {
	for name, call := range calls() {
		m := newMemory()
		got, failed := call(m)
		if failed != strings.HasPrefix(name, "error") {
			t.Error(name, failed)
		}
		if failed && !got.equal(result{}) {
			t.Error(name, got)
		}
		if !bytes.Equal(m.all, newMemory().all) {
			t.Error(name)
		}
	}
}

func TestResultsShareNoMemory(t *testing.T) {
	for name, call := range calls() {
		m := newMemory()
		first, _ := call(m)
		second, _ := call(m)
		kept, _ := call(newMemory())
		scribble(first.h.Rest)
		scribble(first.b)
		if !bytes.Equal(m.all, newMemory().all) {
			t.Error(name, "a result shares memory with an argument")
		}
		if !second.equal(kept) {
			t.Error(name, "results share memory")
		}
		third, _ := call(newMemory())
		if !third.equal(kept) {
			t.Error(name, "a result is kept")
		}
	}
}

func TestResultsStayWhenArgumentsChange(t *testing.T) {
	for name, call := range calls() {
		m := newMemory()
		got, _ := call(m)
		kept, _ := call(newMemory())
		scribble(m.all)
		if !got.equal(kept) {
			t.Error(name)
		}
	}
}

// What was called before, with or without an error, does not matter.
func TestNothingIsKept(t *testing.T) {
	for name, call := range calls() {
		want, _ := call(newMemory())
		for before, other := range calls() {
			other(newMemory())
			if got, _ := call(newMemory()); !got.equal(want) {
				t.Error(name, "behind", before)
			}
		}
	}
}

// What lies between the length and the capacity of a slice does not matter.
func TestOnlyTheLengthCounts(t *testing.T) {
	for n := range 130 {
		short, long := filled(n), append(filled(n), 1, 2, 3)[:n]
		if sum(t, short[:n:n]) != sum(t, long) {
			t.Error("sum", n)
		}
		h, other := hashAt(someWords[1], n), hashAt(someWords[1], n)
		other.Rest = append(other.Rest, 9, 9)[:n%64]
		if !same(write(t, h, short), write(t, other, long)) || finish(t, h) != finish(t, other) {
			t.Error("hash", n)
		}
	}
}

// R3

func TestNilAndEmptyAreEqual(t *testing.T) {
	empty := id(t, "e3b0c44298fc1c149afbf4c8996fb92427ae41e4649b934ca495991b7852b855")
	for _, none := range [][]byte{nil, {}, filled(5)[:0]} {
		if got := sum(t, none); got != empty {
			t.Errorf("%x", got)
		}
		h := api.Hash{Words: firstWords, Rest: none}
		if got := finish(t, h); got != empty {
			t.Errorf("%x", got)
		}
		if got := write(t, h, []byte("abc")); !same(got, api.Hash{Words: firstWords, Rest: []byte("abc"), N: 3}) {
			t.Error(got)
		}
		h.N = 64
		wantWritten(t, "no rest", h, none)
		wantFinished(t, "no rest", h)
	}
}

// R7

func TestNoCallPanics(t *testing.T) {
	numbers := append(append([]int{}, outside...), lengths...)
	rests := [][]byte{nil, {}, filled(1), filled(63), filled(64), filled(65), filled(1000)}
	for _, n := range numbers {
		sha.Pad(n)
		for _, rest := range rests {
			h := api.Hash{Words: someWords[3], Rest: rest, N: n}
			sha.Finish(h)
			for _, b := range rests {
				sha.Write(h, b)
			}
		}
	}
	for _, b := range rests {
		sha.Sum(b)
		sha.Block(someWords[2], b)
	}
	sha.Write(api.Hash{N: math.MinInt}, make([]byte, api.MaxHash+1))
	sha.Write(api.Hash{N: math.MaxInt}, make([]byte, api.MaxHash+1))
}
