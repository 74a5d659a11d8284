package sha_test

import (
	"bytes"
	"math/rand/v2"
	"testing"

	"siding/api"
	"siding/sha"
)

// P8.2

// wantBlock fails unless Block takes a block in as Go's own library does.
func wantBlock(t *testing.T, what string, words [8]uint32, b []byte) {
	t.Helper()
	got, e := sha.Block(words, b)
	if want := written(t, api.Hash{Words: words}, b).Words; got != want || e != api.OK {
		t.Errorf("%s: %x, %x: %x %d, want %x", what, words, b, got, e, want)
	}
}

func TestKnownBlocks(t *testing.T) {
	zeros, ones := make([]byte, 64), bytes.Repeat([]byte{255}, 64)
	none, small, mixed, full := someWords[0], someWords[1], someWords[2], someWords[3]
	for _, c := range []struct {
		words [8]uint32
		b     []byte
		want  [8]uint32
	}{
		{firstWords, padded([]byte("abc")), [8]uint32{0xba7816bf, 0x8f01cfea, 0x414140de, 0x5dae2223, 0xb00361a3, 0x96177a9c, 0xb410ff61, 0xf20015ad}},
		{firstWords, padded(nil), [8]uint32{0xe3b0c442, 0x98fc1c14, 0x9afbf4c8, 0x996fb924, 0x27ae41e4, 0x649b934c, 0xa495991b, 0x7852b855}},
		{firstWords, filled(64), [8]uint32{0x565d4657, 0x75c5282c, 0xb8db4326, 0xde13f79b, 0x62b3ac1e, 0x20cf532f, 0x3d479883, 0x240e4b6b}},
		{none, zeros, [8]uint32{0x7ca51614, 0x425c3ba8, 0xce54dd2f, 0xc2020ae7, 0xb6e574d1, 0x98136d0f, 0xae7e26cc, 0xbf0be7a6}},
		{none, ones, [8]uint32{0x5081b30e, 0xfa9924a2, 0x8412d8aa, 0x28bb0c93, 0xda147a5a, 0xd8e1f92b, 0x5af1210d, 0x57081603}},
		{full, zeros, [8]uint32{0x25260809, 0x56c94ba8, 0xe7d6dd48, 0x222df1d3, 0xf914c4b0, 0xb823beb6, 0xe8cebb7a, 0xddcdff59}},
		{full, ones, [8]uint32{0x0598127a, 0xaf11706e, 0x77401fff, 0xd730c549, 0x0b84c867, 0xa98c6ca3, 0xd7f3c0f9, 0x06a78b79}},
		{small, filled(64), [8]uint32{0x0bfcfdf3, 0x9d61c6a8, 0x2f8ba3f1, 0x220893b8, 0xa756c885, 0xc16f0435, 0xd7709daf, 0x7f4bfa7a}},
		{mixed, filled(64), [8]uint32{0xa3540af6, 0x88e83636, 0x2126a11a, 0xad989a66, 0x063382a3, 0xfb96d877, 0xb2f64467, 0xc88e09dc}},
	} {
		if got, e := sha.Block(c.words, c.b); got != c.want || e != api.OK {
			t.Errorf("%x: %x %d, want %x", c.words, got, e, c.want)
		}
		wantBlock(t, "known", c.words, c.b)
	}
}

func TestBlocksOfEachBit(t *testing.T) {
	for bit := range 512 {
		b := make([]byte, 64)
		b[bit/8] = 1 << (bit % 8)
		for _, words := range append(someWords, firstWords) {
			wantBlock(t, "one bit", words, b)
		}
	}
}

func TestWordsOfEachBit(t *testing.T) {
	for bit := range 256 {
		var words, others [8]uint32
		words[bit/32] = 1 << (bit % 32)
		for i := range words {
			others[i] = ^words[i]
		}
		for _, b := range [][]byte{make([]byte, 64), filled(64), bytes.Repeat([]byte{255}, 64)} {
			wantBlock(t, "one bit", words, b)
			wantBlock(t, "all bits but one", others, b)
		}
	}
}

func TestRandomBlocks(t *testing.T) {
	r := rand.New(rand.NewPCG(8, 3))
	for range 5000 {
		wantBlock(t, "random", randomWords(r), random(r, 64))
	}
}

func TestNoOtherBlocks(t *testing.T) {
	for _, words := range append(someWords, firstWords) {
		for n := range 400 {
			if n == 64 {
				continue
			}
			if got, e := sha.Block(words, filled(n)); got != [8]uint32{} || e != api.ErrArg {
				t.Error(n, got, e)
			}
		}
		for _, n := range []int{512, 640, 64 * 64, api.MaxHash, api.MaxHash + 1} {
			if got, e := sha.Block(words, filled(n)); got != [8]uint32{} || e != api.ErrArg {
				t.Error(n, got, e)
			}
		}
		// Only the length counts, not what lies behind it.
		for _, b := range [][]byte{nil, filled(64)[:0], filled(64)[:63], filled(128)[:65]} {
			if got, e := sha.Block(words, b); got != [8]uint32{} || e != api.ErrArg {
				t.Error(len(b), got, e)
			}
		}
		wantBlock(t, "before others", words, filled(100)[:64])
	}
}
