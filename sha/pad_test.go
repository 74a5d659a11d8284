package sha_test

import (
	"bytes"
	"slices"
	"testing"

	"siding/api"
	"siding/sha"
)

// P8.2

func TestKnownPaddings(t *testing.T) {
	for _, c := range []struct {
		n, zeros int
		count    []byte
	}{
		{0, 63, nil},
		{1, 61, []byte{8}},
		{3, 59, []byte{24}},
		{31, 31, []byte{248}},
		{32, 29, []byte{1, 0}},
		{54, 7, []byte{1, 176}},
		{55, 6, []byte{1, 184}},
		{56, 69, []byte{1, 192}},
		{57, 68, []byte{1, 200}},
		{63, 62, []byte{1, 248}},
		{64, 61, []byte{2, 0}},
		{65, 60, []byte{2, 8}},
		{119, 6, []byte{3, 184}},
		{120, 69, []byte{3, 192}},
		{127, 62, []byte{3, 248}},
		{128, 61, []byte{4, 0}},
		{8191, 62, []byte{255, 248}},
		{8192, 60, []byte{1, 0, 0}},
		{65535, 61, []byte{7, 255, 248}},
		{65536, 60, []byte{8, 0, 0}},
		{999991, 5, []byte{0x7a, 0x11, 0xb8}},
		{999992, 68, []byte{0x7a, 0x11, 0xc0}},
		{api.MaxHash - 1, 61, []byte{0x7a, 0x11, 0xf8}},
		{api.MaxHash, 60, []byte{0x7a, 0x12, 0x00}},
	} {
		want := slices.Concat([]byte{128}, make([]byte, c.zeros), c.count)
		if got, e := sha.Pad(c.n); !bytes.Equal(got, want) || e != api.OK {
			t.Error(c.n, got, e, "want", want)
		}
	}
}

func TestExamplesOfPaddings(t *testing.T) {
	if b := pad(t, 3); len(b) != 61 || b[0] != 128 || !bytes.Equal(b[1:60], make([]byte, 59)) || b[60] != 24 {
		t.Error(b)
	}
	if b := pad(t, 56); len(b) != 72 {
		t.Error(b)
	}
}

func TestPaddingsOfAllLengths(t *testing.T) {
	for n := range 3000 {
		if got, want := pad(t, n), padded(make([]byte, n))[n:]; !bytes.Equal(got, want) {
			t.Error(n, got, "want", want)
		}
	}
	for _, n := range lengths {
		if got, want := pad(t, n), padded(make([]byte, n))[n:]; !bytes.Equal(got, want) {
			t.Error(n, got, "want", want)
		}
	}
}

func TestNoOtherPaddings(t *testing.T) {
	for _, n := range outside {
		if got, e := sha.Pad(n); len(got) != 0 || e != api.ErrArg {
			t.Error(n, got, e)
		}
	}
}
