package crc_test

import (
	"hash/crc32"
	"math"
	"testing"

	"siding/api"
	"siding/crc"
)

// registers are sums with few and many bits, on both sides.
var registers = []uint32{0, 1, 2, 0x80, 0xff, 0x100, 0x8000_0000, 0x8000_0001, 0x7fff_ffff, 0xffff_fffe, 0xffff_ffff, 0xEDB88320, 0x12345678, 0xCBF43926}

// lengths are numbers of bytes up to the greatest one.
var lengths = []int{0, 1, 2, 3, 4, 5, 7, 8, 9, 31, 32, 33, 255, 256, 257, 1000, api.MaxDisk - 1, api.MaxDisk}

// outside are numbers that are no number of bytes, and no byte.
var outside = []int{math.MinInt, math.MinInt + 1, math.MinInt32, -256, -2, -1, api.MaxNum + 1, math.MaxInt - 1, math.MaxInt}

func filled(n int) []byte {
	b := make([]byte, n)
	for i := range b {
		b[i] = byte(i*37 + i/256 + 1)
	}
	return b
}

// stepped is the register of the chapter, by its bits.
func stepped(register uint32, b []byte) uint32 {
	for _, c := range b {
		for bit := 0; bit < 8; bit++ {
			x := register%2 != uint32(c)>>bit%2
			register /= 2
			if x {
				register ^= 0xEDB88320
			}
		}
	}
	return register
}

// joined is the sum a, continued with n bytes 0; exchanging the sum of these for b makes it what a joined sum must be.
func joined(a, b uint32, n int) uint32 {
	const most = 1 << 20
	none := make([]byte, min(n, most))
	zeros := uint32(0)
	for left := n; left > 0; left -= len(none) {
		part := none[:min(left, most)]
		a, zeros = crc32.Update(a, crc32.IEEETable, part), crc32.Update(zeros, crc32.IEEETable, part)
	}
	return a ^ zeros ^ b
}

func sum(t *testing.T, b []byte) uint32 {
	t.Helper()
	c, e := crc.Sum(b)
	if e != api.OK {
		t.Fatal(len(b), e)
	}
	return c
}

func update(t *testing.T, c uint32, b []byte) uint32 {
	t.Helper()
	c, e := crc.Update(c, b)
	if e != api.OK {
		t.Fatal(len(b), e)
	}
	return c
}

func join(t *testing.T, a, b uint32, n int) uint32 {
	t.Helper()
	c, e := crc.Join(a, b, n)
	if e != api.OK {
		t.Fatal(n, e)
	}
	return c
}

func tail(t *testing.T, b []byte, want uint32) []byte {
	t.Helper()
	four, e := crc.Tail(b, want)
	if e != api.OK {
		t.Fatal(len(b), e)
	}
	return four[:]
}
