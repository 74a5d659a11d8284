package crc_test

import (
	"hash/crc32"
	"testing"

	"siding/api"
	"siding/crc"
)

// P2.1

func TestKnownSums(t *testing.T) {
	for _, c := range []struct {
		text string
		sum  uint32
	}{
		{"", 0},
		{"a", 0xE8B7BE43},
		{"abc", 0x352441C2},
		{"123456789", 0xCBF43926},
		{"The quick brown fox jumps over the lazy dog", 0x414FA339},
		{"\x00", 0xD202EF8D},
		{"\x00\x00\x00\x00", 0x2144DF1C},
		{"\xff\xff\xff\xff", 0xFFFFFFFF},
	} {
		if got, e := crc.Sum([]byte(c.text)); got != c.sum || e != api.OK {
			t.Errorf("%q: %#x %d", c.text, got, e)
		}
	}
}

func TestSumsOfOneByte(t *testing.T) {
	for i := range 256 {
		b := []byte{byte(i)}
		if got := sum(t, b); got != crc32.ChecksumIEEE(b) || got != ^stepped(0xFFFFFFFF, b) {
			t.Errorf("%d: %#x", i, got)
		}
	}
}

func TestSumsOfTwoBytes(t *testing.T) {
	for i := range 1 << 16 {
		b := []byte{byte(i), byte(i >> 8)}
		if got := sum(t, b); got != crc32.ChecksumIEEE(b) {
			t.Fatalf("%d: %#x", i, got)
		}
	}
}

func TestSumsOfAllLengths(t *testing.T) {
	for _, n := range lengths {
		for _, b := range [][]byte{filled(n), make([]byte, n)} {
			if got := sum(t, b); got != crc32.ChecksumIEEE(b) || got != ^stepped(0xFFFFFFFF, b) {
				t.Errorf("%d: %#x", n, got)
			}
		}
	}
}

func TestUpdateContinues(t *testing.T) {
	for _, c := range registers {
		for _, n := range lengths {
			b := filled(n)
			if got := update(t, c, b); got != crc32.Update(c, crc32.IEEETable, b) || got != ^stepped(^c, b) {
				t.Errorf("%#x, %d: %#x", c, n, got)
			}
		}
		if got := update(t, c, nil); got != c {
			t.Errorf("%#x: %#x", c, got)
		}
	}
}

func TestUpdateOfNothingIsTheSum(t *testing.T) {
	for _, n := range lengths {
		if b := filled(n); update(t, 0, b) != sum(t, b) {
			t.Error(n)
		}
	}
}

func TestUpdateInParts(t *testing.T) {
	b := filled(60)
	for i := range b {
		for k := i; k <= len(b); k++ {
			got := update(t, update(t, update(t, 0, b[:i]), b[i:k]), b[k:])
			if got != crc32.ChecksumIEEE(b) {
				t.Fatal(i, k, got)
			}
		}
	}
}

func TestTooManyBytes(t *testing.T) {
	for _, n := range []int{api.MaxDisk + 1, api.MaxDisk + 2, 2 * api.MaxDisk, 1 << 20} {
		b := filled(n)
		if got, e := crc.Sum(b); got != 0 || e != api.ErrMany {
			t.Error("Sum", n, got, e)
		}
		for _, c := range registers {
			if got, e := crc.Update(c, b); got != 0 || e != api.ErrMany {
				t.Error("Update", n, c, got, e)
			}
			if got, e := crc.Tail(b, c); got != [4]byte{} || e != api.ErrMany {
				t.Error("Tail", n, c, got, e)
			}
		}
	}
}

func TestRows(t *testing.T) {
	for _, c := range []struct {
		i   int
		row uint32
	}{{0, 0}, {1, 0x77073096}, {128, 0xEDB88320}, {255, 0x2D02EF8D}} {
		if got, e := crc.Row(c.i); got != c.row || e != api.OK {
			t.Errorf("%d: %#x %d", c.i, got, e)
		}
	}
	for i, row := range crc32.IEEETable {
		if got, e := crc.Row(i); got != row || got != stepped(uint32(i), []byte{0}) || e != api.OK {
			t.Errorf("%d: %#x %d", i, got, e)
		}
	}
}

func TestRowsStepRegisters(t *testing.T) {
	for _, register := range registers {
		for i := range 256 {
			row, _ := crc.Row(int(byte(register) ^ byte(i)))
			if got := stepped(register, []byte{byte(i)}); got != register>>8^row {
				t.Errorf("%#x, %d: %#x", register, i, got)
			}
		}
	}
}

func TestNoOtherRows(t *testing.T) {
	for _, i := range append([]int{256, 257, 511, 512, 1 << 16, 1 << 31}, outside...) {
		if got, e := crc.Row(i); got != 0 || e != api.ErrArg {
			t.Error(i, got, e)
		}
	}
}
