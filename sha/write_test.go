package sha_test

import (
	"bytes"
	"math/rand/v2"
	"testing"

	"siding/api"
	"siding/sha"
)

// P8.1

// badHashes are hashes of which one part is not valid.
func badHashes() map[string]api.Hash {
	rest := func(n, length int) api.Hash { return api.Hash{Words: firstWords, Rest: filled(length), N: n} }
	return map[string]api.Hash{
		"-1 bytes":                          rest(-1, 0),
		"-1 bytes, one at rest":             rest(-1, 1),
		"-1 bytes, 63 at rest":              rest(-1, 63),
		"-64 bytes":                         rest(-64, 0),
		"-63 bytes, one at rest":            rest(-63, 1),
		"one byte too many":                 rest(api.MaxHash+1, 1),
		"one byte too many, none at rest":   rest(api.MaxHash+1, 0),
		"64 bytes too many":                 rest(api.MaxHash+64, 0),
		"2^20 bytes":                        rest(1<<20, 0),
		"2^32 bytes":                        rest(1<<32, 0),
		"no bytes, one at rest":             rest(0, 1),
		"no bytes, 64 at rest":              rest(0, 64),
		"no bytes, 128 at rest":             rest(0, 128),
		"one byte, none at rest":            rest(1, 0),
		"one byte, two at rest":             rest(1, 2),
		"one byte, 65 at rest":              rest(1, 65),
		"63 bytes, none at rest":            rest(63, 0),
		"63 bytes, 62 at rest":              rest(63, 62),
		"63 bytes, 64 at rest":              rest(63, 64),
		"64 bytes, one at rest":             rest(64, 1),
		"64 bytes, 63 at rest":              rest(64, 63),
		"64 bytes, all at rest":             rest(64, 64),
		"65 bytes, none at rest":            rest(65, 0),
		"65 bytes, all at rest":             rest(65, 65),
		"100 bytes, 35 at rest":             rest(100, 35),
		"100 bytes, 37 at rest":             rest(100, 37),
		"100 bytes, all at rest":            rest(100, 100),
		"the most bytes, one at rest":       rest(api.MaxHash, 1),
		"the most bytes, 63 at rest":        rest(api.MaxHash, 63),
		"the most bytes, 64 at rest":        rest(api.MaxHash, 64),
		"the most bytes, all at rest":       rest(api.MaxHash, api.MaxHash),
		"one byte less, none at rest":       rest(api.MaxHash-1, 0),
		"one byte less, 62 at rest":         rest(api.MaxHash-1, 62),
		"one byte less, 64 at rest":         rest(api.MaxHash-1, 64),
		"nothing but one byte at rest":      {Rest: []byte{0}},
		"nothing but one byte":              {N: 1},
		"nothing but a number below 0":      {N: -64},
		"nothing but a number too great":    {N: api.MaxHash + 64},
		"no byte at rest though one before": {Words: firstWords, Rest: filled(1)[:0], N: 1},
	}
}

func TestStart(t *testing.T) {
	if got := sha.Start(); !same(got, api.Hash{Words: firstWords}) {
		t.Error(got)
	}
	if got := finish(t, sha.Start()); got != id(t, "e3b0c44298fc1c149afbf4c8996fb92427ae41e4649b934ca495991b7852b855") {
		t.Errorf("%x", got)
	}
}

func TestKnownHashes(t *testing.T) {
	afterOne := [8]uint32{0x565d4657, 0x75c5282c, 0xb8db4326, 0xde13f79b, 0x62b3ac1e, 0x20cf532f, 0x3d479883, 0x240e4b6b}
	afterTwo := [8]uint32{0x93c3519e, 0xdcf4de0f, 0x74241cff, 0xbc5d6a30, 0xe24687c3, 0x516ec9fb, 0xc8dc7f6b, 0x5a39ba04}
	one := filled(64)
	two := append(filled(64), one...)
	for _, c := range []struct {
		b    []byte
		want api.Hash
	}{
		{nil, api.Hash{Words: firstWords}},
		{one[:1], api.Hash{Words: firstWords, Rest: one[:1], N: 1}},
		{[]byte("abc"), api.Hash{Words: firstWords, Rest: []byte("abc"), N: 3}},
		{one[:63], api.Hash{Words: firstWords, Rest: one[:63], N: 63}},
		{one, api.Hash{Words: afterOne, N: 64}},
		{two[:65], api.Hash{Words: afterOne, Rest: one[:1], N: 65}},
		{two[:127], api.Hash{Words: afterOne, Rest: one[:63], N: 127}},
		{two, api.Hash{Words: afterTwo, N: 128}},
		{append(two, 7, 8), api.Hash{Words: afterTwo, Rest: []byte{7, 8}, N: 130}},
	} {
		if got := write(t, sha.Start(), c.b); !same(got, c.want) {
			t.Error(len(c.b), got)
		}
	}
}

// Bytes of each length behind a Rest of each length.
func TestWriteBehindEachRest(t *testing.T) {
	for rest := range 64 {
		h := hashAt(someWords[2], 640+rest)
		for n := range 200 {
			wantWritten(t, "rest", h, filled(n))
		}
		for _, n := range []int{255, 256, 257, 1000, 4096, 5000} {
			wantWritten(t, "rest", h, filled(n))
		}
	}
}

func TestWriteBehindEachLength(t *testing.T) {
	for _, n := range lengths {
		for _, words := range append(someWords, firstWords) {
			h := hashAt(words, n)
			for _, k := range []int{0, 1, 2, 63, 64, 65, 128} {
				if n+k <= api.MaxHash {
					wantWritten(t, "length", h, filled(k))
				}
			}
		}
	}
}

func TestWriteNothing(t *testing.T) {
	for n := range 200 {
		for _, words := range append(someWords, firstWords) {
			h := hashAt(words, n)
			for _, none := range [][]byte{nil, {}, filled(3)[:0]} {
				if got := write(t, h, none); !same(got, h) {
					t.Error(n, got)
				}
			}
		}
	}
	if h := hashAt(someWords[1], api.MaxHash); !same(write(t, h, nil), h) {
		t.Error("the most bytes")
	}
}

// A hash is valid with any words, so they are what is continued.
func TestFinishOfAnyWords(t *testing.T) {
	r := rand.New(rand.NewPCG(8, 2))
	for n := range 300 {
		for _, words := range append(someWords, firstWords, randomWords(r)) {
			wantFinished(t, "any words", hashAt(words, n))
		}
	}
	for _, n := range lengths {
		for _, words := range append(someWords, firstWords, randomWords(r)) {
			wantFinished(t, "any words", hashAt(words, n))
		}
	}
}

// The digest is that of N bytes, of which those that were taken in do not matter but for the words.
func TestKnownDigestsOfHashes(t *testing.T) {
	afterOne := [8]uint32{0x565d4657, 0x75c5282c, 0xb8db4326, 0xde13f79b, 0x62b3ac1e, 0x20cf532f, 0x3d479883, 0x240e4b6b}
	for _, c := range []struct {
		h      api.Hash
		digits string
	}{
		{api.Hash{Words: firstWords, Rest: []byte("abc"), N: 3}, "ba7816bf8f01cfea414140de5dae2223b00361a396177a9cb410ff61f20015ad"},
		{api.Hash{Words: firstWords, Rest: filled(55), N: 55}, "46c21af296bc9f725c4479f9c25f712984de38fd90005c59e90b2eb9a8ca8ca2"},
		{api.Hash{Words: firstWords, Rest: filled(56), N: 56}, "a5a4f40e0cf5592a6df90de66cf1f7d86e748470f6e59580c26a3b7284e266e9"},
		{api.Hash{Words: firstWords, Rest: filled(63), N: 63}, "9308ae5d157190bd0eadca7e344a1f1f743493b47ff1fe4a60ae7aa7720fee66"},
		{api.Hash{Words: afterOne, N: 64}, "5bb66824a76ee67111e30e192307e440af023bc8267a6c264ad416ddc50385d9"},
		{api.Hash{Words: afterOne, Rest: filled(119)[64:], N: 119}, "b5e0ac9b60d6272e1311257c1ecba8e9438f9bef1f1428e96060c447288531d1"},
		{api.Hash{Words: afterOne, Rest: filled(120)[64:], N: 120}, "b3b2ce14909341ef336135887393f2ef31f26e07a0d07d3bc957f786cfdd1af8"},
	} {
		if got, e := sha.Finish(c.h); got != id(t, c.digits) || e != api.OK {
			t.Errorf("%d bytes: %x %d", c.h.N, got, e)
		}
	}
}

func TestHashesThatAreNotValid(t *testing.T) {
	for what, h := range badHashes() {
		for _, words := range append(someWords, h.Words) {
			h.Words = words
			wantNotFinished(t, what, h)
			for _, b := range [][]byte{nil, {}, {1}, filled(63), filled(64), filled(65)} {
				wantNotWritten(t, what, h, b, api.ErrBad)
			}
		}
	}
}

// A Rest of each length, for some numbers of bytes with each remainder.
func TestEachLengthOfRest(t *testing.T) {
	for _, start := range []int{0, 64, 8128, api.MaxHash - 64} {
		for n := start; n < start+64; n++ {
			for length := range 131 {
				h := api.Hash{Words: firstWords, Rest: filled(length), N: n}
				if length == n%64 {
					wantWritten(t, "rest", h, filled(1))
					wantFinished(t, "rest", h)
					continue
				}
				wantNotWritten(t, "rest", h, filled(1), api.ErrBad)
				wantNotFinished(t, "rest", h)
			}
		}
	}
}

func TestNumbersOutside(t *testing.T) {
	for _, n := range outside {
		for _, length := range []int{0, 1, 2, 32, 62, 63, 64, n & 63} {
			h := api.Hash{Words: firstWords, Rest: filled(length), N: n}
			wantNotWritten(t, "outside", h, nil, api.ErrBad)
			wantNotWritten(t, "outside", h, filled(64), api.ErrBad)
			wantNotFinished(t, "outside", h)
		}
	}
}

func TestWriteUpToTheMostBytes(t *testing.T) {
	for _, k := range []int{0, 1, 2, 62, 63, 64, 65, 127, 128, 1000, 8192, 999999, api.MaxHash} {
		h := hashAt(someWords[1], api.MaxHash-k)
		wantWritten(t, "most", h, filled(k))
		for _, more := range []int{1, 2, 63, 64, 65, 1 << 20} {
			wantNotWritten(t, "too many", h, filled(k+more), api.ErrMany)
		}
	}
	for _, n := range []int{0, 1, 63, 64, 500000} {
		wantWritten(t, "most", hashAt(firstWords, n), filled(api.MaxHash-n))
		wantNotWritten(t, "too many", hashAt(firstWords, n), filled(api.MaxHash-n+1), api.ErrMany)
	}
}

// Nothing more can be put behind the most bytes, but they have a digest.
func TestHashOfTheMostBytes(t *testing.T) {
	h := write(t, sha.Start(), filled(api.MaxHash))
	if got := finish(t, h); got != id(t, "3045418b330a26839d46ca682176260c5b9aab8cbab7a0f262b399d35ed2811d") {
		t.Errorf("%x", got)
	}
	wantNotWritten(t, "one more", h, []byte{1}, api.ErrMany)
	if got := write(t, h, nil); !same(got, h) {
		t.Error(got)
	}
}

// R1: what is not valid is named before what is too much.
func TestNotValidAndTooMany(t *testing.T) {
	for what, h := range badHashes() {
		wantNotWritten(t, what, h, make([]byte, api.MaxHash+1), api.ErrBad)
		wantNotWritten(t, what, h, bytes.Repeat([]byte{7}, 2*api.MaxHash), api.ErrBad)
	}
}
