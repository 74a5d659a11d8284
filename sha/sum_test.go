package sha_test

import (
	"bytes"
	"math/rand/v2"
	"strings"
	"testing"

	"siding/api"
	"siding/sha"
)

// P8.1

// knownDigests are texts with their digests.
func knownDigests() map[string]string {
	return map[string]string{
		"":               "e3b0c44298fc1c149afbf4c8996fb92427ae41e4649b934ca495991b7852b855",
		"a":              "ca978112ca1bbdcafac231b39a23dc4da786eff8147c4e72b9807785afee48bb",
		"abc":            "ba7816bf8f01cfea414140de5dae2223b00361a396177a9cb410ff61f20015ad",
		"message digest": "f7846f55cf23e14eebeab5b4e1550cad5b509e3348fbc4efa3a1413d393cb650",
		"abcdbcdecdefdefgefghfghighijhijkijkljklmklmnlmnomnopnopq":                                                         "248d6a61d20638b8e5c026930c3e6039a33ce45964ff2167f6ecedd419db06c1",
		"abcdefghbcdefghicdefghijdefghijkefghijklfghijklmghijklmnhijklmnoijklmnopjklmnopqklmnopqrlmnopqrsmnopqrstnopqrstu": "cf5b16a778af8380036ce59e7b0492370b249b11e8f07a51afac45037afee9d1",
		strings.Repeat("a", 55):      "9f4390f8d30c2dd92ec9f095b65e2b9ae9b0a925a5258e241c9f1e910f734318",
		strings.Repeat("a", 56):      "b35439a4ac6f0948b6d6f9e3c6af0f5f590ce20f1bde7090ef7970686ec6738a",
		strings.Repeat("a", 63):      "7d3e74a05d7db15bce4ad9ec0658ea98e3f06eeecf16b4c6fff2da457ddc2f34",
		strings.Repeat("a", 64):      "ffe054fe7ae0cb6dc65c3af9b61d5209f439851db43d0ba5997337df154668eb",
		strings.Repeat("a", 119):     "31eba51c313a5c08226adf18d4a359cfdfd8d2e816b13f4af952f7ea6584dcfb",
		strings.Repeat("a", 120):     "2f3d335432c70b580af0e8e1b3674a7c020d683aa5f73aaaedfdc55af904c21c",
		strings.Repeat("a", 1000000): "cdc76e5c9914fb9281a1c7e284d73e67f1809a48a497200e046d39ccc7112cd0",
		strings.Repeat("\x00", 55):   "02779466cdec163811d078815c633f21901413081449002f24aa3e80f0b88ef7",
		strings.Repeat("\x00", 56):   "d4817aa5497628e7c77e6b606107042bbba3130888c5f47a375e6179be789fbb",
		strings.Repeat("\x00", 64):   "f5a5fd42d16a20302798ef6ed309979b43003d2320d9f0e8ea9831a92759fb4b",
		strings.Repeat("\x00", 1e6):  "d29751f2649b32ff572b5e0a9f541ea660a50f94ff0beedfb0b692b924cc8025",
		string(filled(1)):            "4bf5122f344554c53bde2ebb8cd2b7e3d1600ad631c385a5d7cce23c7785459a",
		string(filled(31)):           "fa266e425b6c4f4fd3f88857d1eb4deccd38f6e6de07460ec7ca7979719fdfdc",
		string(filled(32)):           "e085307276751e120460e72d4f451bce379c730e2998de60cdbe73986d5e4ce8",
		string(filled(55)):           "46c21af296bc9f725c4479f9c25f712984de38fd90005c59e90b2eb9a8ca8ca2",
		string(filled(56)):           "a5a4f40e0cf5592a6df90de66cf1f7d86e748470f6e59580c26a3b7284e266e9",
		string(filled(63)):           "9308ae5d157190bd0eadca7e344a1f1f743493b47ff1fe4a60ae7aa7720fee66",
		string(filled(64)):           "5bb66824a76ee67111e30e192307e440af023bc8267a6c264ad416ddc50385d9",
		string(filled(119)):          "b5e0ac9b60d6272e1311257c1ecba8e9438f9bef1f1428e96060c447288531d1",
		string(filled(120)):          "b3b2ce14909341ef336135887393f2ef31f26e07a0d07d3bc957f786cfdd1af8",
		string(filled(1000)):         "cc2b5dbed47c56f906466396e58305cc35ec8a0734065514004ede72ad0469de",
		string(filled(8191)):         "8bf874b39bf45b989cbc8a64953a1e1fe16492210fc115314f802dd8f10a6a73",
		string(filled(8192)):         "010e6eaf2e0de12315a0421c65604e5e00443756af4f67ff3fe9891b963b02c0",
		string(filled(65535)):        "ce2da91488a504e30873a296ec969ea9aa6e8e0cc793d41ec342157d1405a78b",
		string(filled(65536)):        "ab25376429bf6dbe11871435aea86ca586bb4278b2fe13555bcfd0b53ce511d5",
		string(filled(999999)):       "1bcc6f7e34bd479d96acb73d6b7d4aaf44a991c4db35772d2d5fde6bda0c39e8",
		string(filled(api.MaxHash)):  "3045418b330a26839d46ca682176260c5b9aab8cbab7a0f262b399d35ed2811d",
	}
}

func TestKnownDigests(t *testing.T) {
	for text, digits := range knownDigests() {
		want := id(t, digits)
		if got, e := sha.Sum([]byte(text)); got != want || e != api.OK {
			t.Errorf("%d bytes: %x %d", len(text), got, e)
		}
		if got := finish(t, write(t, sha.Start(), []byte(text))); got != want {
			t.Errorf("%d bytes, written: %x", len(text), got)
		}
		wantSum(t, "known", []byte(text))
	}
}

func TestDigestsOfAllLengths(t *testing.T) {
	for n := range 600 {
		wantSum(t, "filled", filled(n))
		wantSum(t, "zeros", make([]byte, n))
		wantSum(t, "the greatest bytes", bytes.Repeat([]byte{255}, n))
	}
	for _, n := range lengths {
		wantSum(t, "filled", filled(n))
		wantSum(t, "zeros", make([]byte, n))
	}
	for n := 600; n < 20000; n += 61 {
		wantSum(t, "long", filled(n))
	}
}

func TestDigestsOfEachByte(t *testing.T) {
	for i := range 256 {
		wantSum(t, "one", []byte{byte(i)})
		wantSum(t, "one block", bytes.Repeat([]byte{byte(i)}, 64))
	}
}

func TestDigestsOfEachBit(t *testing.T) {
	for _, n := range []int{55, 64, 130} {
		for bit := range 8 * n {
			b := make([]byte, n)
			b[bit/8] = 1 << (bit % 8)
			wantSum(t, "one bit", b)
		}
	}
}

// Bytes that look like a padding are bytes as any others.
func TestDigestsOfPaddings(t *testing.T) {
	for _, n := range []int{0, 1, 3, 55, 56, 63, 64, 119, 120} {
		b := padded(filled(n))
		wantSum(t, "padded", b)
		wantSum(t, "padding", b[n:])
		wantSum(t, "padded again", padded(b))
	}
}

func TestDigestsOfRandomBytes(t *testing.T) {
	r := rand.New(rand.NewPCG(8, 1))
	for range 2000 {
		wantSum(t, "random", random(r, r.IntN(400)))
	}
	for range 20 {
		wantSum(t, "random", random(r, r.IntN(api.MaxHash+1)))
	}
}

func TestSumOfTheMostBytes(t *testing.T) {
	for n := api.MaxHash - 130; n <= api.MaxHash; n += 13 {
		wantSum(t, "most", filled(n))
	}
}

func TestSumOfTooManyBytes(t *testing.T) {
	for _, n := range []int{api.MaxHash + 1, api.MaxHash + 2, api.MaxHash + 63, api.MaxHash + 64, api.MaxHash + 65, 1 << 20, 2 * api.MaxHash, 1 << 24} {
		if got, e := sha.Sum(make([]byte, n)); got != (api.ID{}) || e != api.ErrMany {
			t.Errorf("%d bytes: %x %d", n, got, e)
		}
	}
}
