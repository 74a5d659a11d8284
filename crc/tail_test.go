package crc_test

import (
	"bytes"
	"hash/crc32"
	"testing"

	"siding/api"
	"siding/crc"
)

// P2.3

func TestKnownTails(t *testing.T) {
	for _, c := range []struct {
		text string
		want uint32
		tail string
	}{
		{"", 0xFFFFFFFF, "\xff\xff\xff\xff"},
		{"", 0x2144DF1C, "\x00\x00\x00\x00"},
		{"12345", 0xCBF43926, "6789"},
		{"The quick brown fox jumps over the lazy", 0x414FA339, " dog"},
	} {
		if got := tail(t, []byte(c.text), c.want); string(got) != c.tail {
			t.Errorf("%q: %q", c.text, got)
		}
	}
}

func TestTailsMakeTheSum(t *testing.T) {
	for _, n := range lengths {
		b := filled(n)
		for _, want := range registers {
			if got := crc32.Update(crc32.ChecksumIEEE(b), crc32.IEEETable, tail(t, b, want)); got != want {
				t.Errorf("%d, %#x: %#x", n, want, got)
			}
		}
	}
}

func TestTailsOfEachBit(t *testing.T) {
	for bit := range 32 {
		for _, b := range []string{"", "x", "abcd", "abcde"} {
			want := uint32(1) << bit
			if got := crc32.ChecksumIEEE(append([]byte(b), tail(t, []byte(b), want)...)); got != want {
				t.Errorf("%q, %#x: %#x", b, want, got)
			}
		}
	}
}

func TestTailsAreWhatTheSumWasMadeWith(t *testing.T) {
	b := filled(500)
	for k := range len(b) - 3 {
		got := tail(t, b[:k], crc32.ChecksumIEEE(b[:k+4]))
		if !bytes.Equal(got, b[k:k+4]) {
			t.Error(k, got)
		}
	}
}

// The greatest number of bytes has a tail, though there are too many bytes together with it.
func TestTailOfTheMostBytes(t *testing.T) {
	b := filled(api.MaxDisk)
	four := tail(t, b, 0xDEADBEEF)
	if got := update(t, sum(t, b), four); got != 0xDEADBEEF {
		t.Errorf("%#x", got)
	}
	if got, e := crc.Sum(append(b, four...)); got != 0 || e != api.ErrMany {
		t.Error(got, e)
	}
}
