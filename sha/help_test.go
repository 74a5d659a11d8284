package sha_test

import (
	"bytes"
	"crypto/sha256"
	"encoding"
	"encoding/binary"
	"encoding/hex"
	"math"
	"math/rand/v2"
	"testing"

	"siding/api"
	"siding/sha"
)

// firstWords are those of the chapter.
var firstWords = [8]uint32{0x6a09e667, 0xbb67ae85, 0x3c6ef372, 0xa54ff53a, 0x510e527f, 0x9b05688c, 0x1f83d9ab, 0x5be0cd19}

// lengths are numbers of bytes: around the places where a padding or its number takes more, and around the greatest one.
var lengths = []int{
	0, 1, 2, 3, 31, 32, 54, 55, 56, 57, 62, 63, 64, 65, 118, 119, 120, 121, 127, 128, 129, 183, 184, 191, 192, 255, 256,
	8191, 8192, 8247, 8248, 65535, 65536, 1 << 19, 999991, 999992, 999998, api.MaxHash - 1, api.MaxHash,
}

// outside are numbers that are no number of bytes, among them those whose remainder by 64, or whose lowest bits, are those of one.
var outside = []int{
	math.MinInt, math.MinInt + 1, math.MinInt + 64, math.MinInt32, -1 << 32, -api.MaxHash, -128, -65, -64, -63, -2, -1,
	api.MaxHash + 1, api.MaxHash + 2, api.MaxHash + 63, api.MaxHash + 64, 1 << 20, 2 * api.MaxHash, math.MaxInt32, math.MaxUint32, 1 << 32, 1<<32 + 64, math.MaxInt - 63, math.MaxInt - 1, math.MaxInt,
}

// someWords are words of no digest, of few bits and of many.
var someWords = [][8]uint32{
	{},
	{1, 2, 3, 4, 5, 6, 7, 8},
	{0x80000000, 1, 0x01020304, 0xfffefdfc, 0x7fffffff, 0xdeadbeef, 0x00ff00ff, 0xa5a5a5a5},
	{0xffffffff, 0xffffffff, 0xffffffff, 0xffffffff, 0xffffffff, 0xffffffff, 0xffffffff, 0xffffffff},
}

func filled(n int) []byte {
	b := make([]byte, n)
	for i := range b {
		b[i] = byte(i*37 + i/256 + 1)
	}
	return b
}

func random(r *rand.Rand, n int) []byte {
	b := make([]byte, n)
	for i := range b {
		b[i] = byte(r.Uint32())
	}
	return b
}

func randomWords(r *rand.Rand) [8]uint32 {
	var words [8]uint32
	for i := range words {
		words[i] = r.Uint32()
	}
	return words
}

// id is a digest of which all digits to the base 16 are given.
func id(t *testing.T, digits string) api.ID {
	t.Helper()
	b, err := hex.DecodeString(digits)
	if err != nil || len(b) != 32 {
		t.Fatal(digits, err)
	}
	return api.ID(b)
}

// padded are bytes and their padding: zeros are put behind 128 until all blocks are full.
func padded(b []byte) []byte {
	all := append(bytes.Clone(b), 128)
	for len(all)%64 != 56 {
		all = append(all, 0)
	}
	return binary.BigEndian.AppendUint64(all, uint64(len(b))*8)
}

// hashAt is a hash of n bytes with some words; Rest lies before other bytes.
func hashAt(words [8]uint32, n int) api.Hash {
	return api.Hash{Words: words, Rest: filled(100)[:n%64], N: n}
}

// written is a hash that Go's own library continues with bytes.
func written(t *testing.T, h api.Hash, b []byte) api.Hash {
	t.Helper()
	state := []byte("sha\x03")
	for _, w := range h.Words {
		state = binary.BigEndian.AppendUint32(state, w)
	}
	state = append(append(state, h.Rest...), make([]byte, 64-len(h.Rest))...)
	state = binary.BigEndian.AppendUint64(state, uint64(h.N))
	d := sha256.New()
	if err := d.(encoding.BinaryUnmarshaler).UnmarshalBinary(state); err != nil {
		t.Fatal(err)
	}
	d.Write(b)
	state, err := d.(encoding.BinaryMarshaler).MarshalBinary()
	if err != nil || len(state) != 4+32+64+8 {
		t.Fatal(len(state), err)
	}
	n := int(binary.BigEndian.Uint64(state[100:]))
	got := api.Hash{Rest: state[36 : 36+n%64], N: n}
	for i := range got.Words {
		got.Words[i] = binary.BigEndian.Uint32(state[4+4*i:])
	}
	return got
}

// finished are the words that Go's own library makes of a hash and the padding of its bytes, as a digest.
func finished(t *testing.T, h api.Hash) api.ID {
	t.Helper()
	rest := padded(make([]byte, h.N))[h.N:]
	return asID(written(t, h, rest).Words)
}

func asID(words [8]uint32) api.ID {
	var b []byte
	for _, w := range words {
		b = binary.BigEndian.AppendUint32(b, w)
	}
	return api.ID(b)
}

func same(a, b api.Hash) bool {
	return a.Words == b.Words && bytes.Equal(a.Rest, b.Rest) && a.N == b.N
}

func sum(t *testing.T, b []byte) api.ID {
	t.Helper()
	got, e := sha.Sum(b)
	if e != api.OK {
		t.Fatal(len(b), e)
	}
	return got
}

func write(t *testing.T, h api.Hash, b []byte) api.Hash {
	t.Helper()
	got, e := sha.Write(h, b)
	if e != api.OK {
		t.Fatal(h.N, len(b), e)
	}
	return got
}

func finish(t *testing.T, h api.Hash) api.ID {
	t.Helper()
	got, e := sha.Finish(h)
	if e != api.OK {
		t.Fatal(h.N, e)
	}
	return got
}

func pad(t *testing.T, n int) []byte {
	t.Helper()
	b, e := sha.Pad(n)
	if e != api.OK {
		t.Fatal(n, e)
	}
	return b
}

func block(t *testing.T, words [8]uint32, b []byte) [8]uint32 {
	t.Helper()
	got, e := sha.Block(words, b)
	if e != api.OK {
		t.Fatal(len(b), e)
	}
	return got
}

// wantWritten fails unless Write continues a hash with bytes as Go's own library does.
func wantWritten(t *testing.T, what string, h api.Hash, b []byte) {
	t.Helper()
	got, e := sha.Write(h, b)
	if want := written(t, h, b); e != api.OK || !same(got, want) {
		t.Errorf("%s: %d bytes behind %d: %v %d, want %v", what, len(b), h.N, got, e, want)
	}
}

// wantFinished fails unless Finish returns the digest of Go's own library.
func wantFinished(t *testing.T, what string, h api.Hash) {
	t.Helper()
	got, e := sha.Finish(h)
	if want := finished(t, h); e != api.OK || got != want {
		t.Errorf("%s: %d bytes: %x %d, want %x", what, h.N, got, e, want)
	}
}

// wantSum fails unless Sum returns the digest of Go's own library.
func wantSum(t *testing.T, what string, b []byte) {
	t.Helper()
	got, e := sha.Sum(b)
	if want := api.ID(sha256.Sum256(b)); e != api.OK || got != want {
		t.Errorf("%s: %d bytes: %x %d, want %x", what, len(b), got, e, want)
	}
}

func wantNotWritten(t *testing.T, what string, h api.Hash, b []byte, err api.Errno) {
	t.Helper()
	if got, e := sha.Write(h, b); !same(got, api.Hash{}) || e != err {
		t.Errorf("%s: %d bytes behind %d: %v %d, want %d", what, len(b), h.N, got, e, err)
	}
}

func wantNotFinished(t *testing.T, what string, h api.Hash) {
	t.Helper()
	if got, e := sha.Finish(h); got != (api.ID{}) || e != api.ErrBad {
		t.Errorf("%s: %d bytes: %x %d", what, h.N, got, e)
	}
}
