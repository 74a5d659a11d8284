package sha_test

import (
	"crypto/sha256"
	"math/rand/v2"
	"slices"
	"testing"

	"siding/api"
	"siding/sha"
)

// P8.3

// wantParts fails unless writing parts gives the hash and the digest of all their bytes at once.
func wantParts(t *testing.T, what string, parts ...[]byte) {
	t.Helper()
	whole := slices.Concat(parts...)
	h := sha.Start()
	for _, part := range parts {
		h = write(t, h, part)
	}
	if want := write(t, sha.Start(), whole); !same(h, want) {
		t.Errorf("%s: %d parts of %d bytes: %v, want %v", what, len(parts), len(whole), h, want)
	}
	want := api.ID(sha256.Sum256(whole))
	if got := finish(t, h); got != want || sum(t, whole) != want {
		t.Errorf("%s: %d parts of %d bytes: %x, want %x", what, len(parts), len(whole), got, want)
	}
}

func TestTwoParts(t *testing.T) {
	for _, n := range []int{0, 1, 3, 55, 56, 63, 64, 65, 119, 120, 127, 128, 129, 200, 321} {
		b := filled(n)
		for k := range n + 1 {
			wantParts(t, "two", b[:k], b[k:])
			wantParts(t, "with empty ones", nil, b[:k], nil, b[:0], b[k:], nil)
		}
	}
}

func TestThreeParts(t *testing.T) {
	b := filled(140)
	for i := range len(b) + 1 {
		for k := i; k <= len(b); k++ {
			wantParts(t, "three", b[:i], b[i:k], b[k:])
		}
	}
}

func TestPartsOfOneSize(t *testing.T) {
	for _, n := range []int{0, 1, 63, 64, 65, 128, 300, 1000} {
		for size := 1; size <= 200; size++ {
			wantParts(t, "one size", slices.Collect(slices.Chunk(filled(n), size))...)
		}
	}
}

func TestPartsOfRandomSizes(t *testing.T) {
	r := rand.New(rand.NewPCG(8, 4))
	for range 500 {
		var parts [][]byte
		for range r.IntN(12) {
			parts = append(parts, random(r, r.IntN(1+r.IntN(200))))
		}
		wantParts(t, "random", parts...)
	}
}

func TestLongParts(t *testing.T) {
	r := rand.New(rand.NewPCG(8, 5))
	for _, n := range lengths {
		b := filled(n)
		for range 3 {
			k := r.IntN(n + 1)
			wantParts(t, "long", b[:k], b[k:])
			wantParts(t, "long, with empty ones", b[:0], b[:k], b[k:k], b[k:], b[n:])
		}
	}
	b := filled(api.MaxHash)
	wantParts(t, "the most", slices.Collect(slices.Chunk(b, 77777))...)
	wantParts(t, "the most", b[:1], b[1:])
	wantParts(t, "the most", b[:api.MaxHash-1], b[api.MaxHash-1:])
}

// A hash can be continued in two ways: the one does not change the other.
func TestHashesThatFork(t *testing.T) {
	for n := range 130 {
		h := write(t, sha.Start(), filled(n))
		a, b := write(t, h, []byte("left")), write(t, h, []byte("right, and some more"))
		for what, c := range map[string]struct {
			h api.Hash
			s string
		}{"none": {h, ""}, "left": {a, "left"}, "right": {b, "right, and some more"}} {
			if got := finish(t, c.h); got != sha256.Sum256(append(filled(n), c.s...)) {
				t.Errorf("%d, %s: %x", n, what, got)
			}
		}
	}
}

// Finishing does not end a hash: it can be continued, and finished again.
func TestHashesGoOnBehindTheirDigest(t *testing.T) {
	h := sha.Start()
	for n := range 200 {
		for range 2 {
			if got := finish(t, h); got != sha256.Sum256(filled(n)) {
				t.Errorf("%d: %x", n, got)
			}
		}
		h = write(t, h, filled(n + 1)[n:])
	}
}

func TestBlocksOfBytesAndTheirPadding(t *testing.T) {
	check := func(n int) {
		b := filled(n)
		words := sha.Start().Words
		for part := range slices.Chunk(append(b, pad(t, n)...), 64) {
			words = block(t, words, part)
		}
		if got := asID(words); got != sum(t, filled(n)) || got != sha256.Sum256(filled(n)) {
			t.Errorf("%d: %x", n, got)
		}
	}
	for n := range 400 {
		check(n)
	}
	for _, n := range lengths {
		check(n)
	}
}

// The words of a hash are those of its full blocks, taken in one after the other.
func TestWordsOfHashes(t *testing.T) {
	words := firstWords
	b := filled(64 * 20)
	for i := range 20 {
		for k := range 64 {
			h := write(t, sha.Start(), b[:64*i+k])
			if want := (api.Hash{Words: words, Rest: b[64*i : 64*i+k], N: 64*i + k}); !same(h, want) {
				t.Error(64*i+k, h, want)
			}
		}
		words = block(t, words, b[64*i:64*i+64])
	}
}

func TestSizesOfPaddings(t *testing.T) {
	var seen [73]bool
	for n := range api.MaxHash + 1 {
		b := pad(t, n)
		if len(b) < 9 || len(b) > 72 || (n+len(b))%64 != 0 {
			t.Fatal(n, len(b))
		}
		seen[len(b)] = true
	}
	for size := 9; size <= 72; size++ {
		if !seen[size] {
			t.Error(size)
		}
	}
}
