package crc_test

import (
	"math/rand/v2"
	"testing"

	"siding/api"
)

// P2.4

func random(r *rand.Rand, n int) []byte {
	b := make([]byte, n)
	for i := range b {
		b[i] = byte(r.Uint32())
	}
	return b
}

func TestPartsAndTheirSums(t *testing.T) {
	r := rand.New(rand.NewPCG(2, 1))
	for range 400 {
		b := random(r, r.IntN(300))
		k := r.IntN(len(b) + 1)
		whole, first, second := sum(t, b), sum(t, b[:k]), sum(t, b[k:])
		if got := join(t, first, second, len(b)-k); got != whole {
			t.Errorf("joined %d of %d: %#x", k, len(b), got)
		}
		if got := update(t, first, b[k:]); got != whole {
			t.Errorf("continued %d of %d: %#x", k, len(b), got)
		}
	}
}

func TestBytesWithTheirTail(t *testing.T) {
	r := rand.New(rand.NewPCG(2, 2))
	for range 400 {
		b, want := random(r, r.IntN(300)), r.Uint32()
		if got := sum(t, append(b, tail(t, b, want)...)); got != want {
			t.Errorf("%d: %#x, not %#x", len(b), got, want)
		}
	}
}

func TestOtherTailsMakeOtherSums(t *testing.T) {
	r := rand.New(rand.NewPCG(2, 3))
	b, want := random(r, 50), r.Uint32()
	four := tail(t, b, want)
	for bits := uint32(1); bits != 0; bits <<= 1 {
		for _, change := range []uint32{bits, bits | 1, ^bits, bits * 0x101} {
			other := []byte{four[0] ^ byte(change), four[1] ^ byte(change>>8), four[2] ^ byte(change>>16), four[3] ^ byte(change>>24)}
			if change != 0 && update(t, sum(t, b), other) == want {
				t.Errorf("%#x", change)
			}
		}
	}
}

func TestSumOfTheExclusiveOr(t *testing.T) {
	r := rand.New(rand.NewPCG(2, 4))
	for _, n := range lengths {
		a, b, c, d := random(r, n), random(r, n), random(r, n), make([]byte, n)
		for i := range d {
			d[i] = a[i] ^ b[i] ^ c[i]
		}
		if sum(t, a)^sum(t, b)^sum(t, c) != sum(t, d) {
			t.Error(n)
		}
	}
}

func TestChangesWithinFourBytes(t *testing.T) {
	r := rand.New(rand.NewPCG(2, 5))
	for _, n := range []int{1, 2, 3, 4, 5, 30, 2000, api.MaxDisk} {
		b := random(r, n)
		before := sum(t, b)
		for range 60 {
			at := r.IntN(n)
			end := min(n, at+4)
			changed := append([]byte(nil), b...)
			copy(changed[at:end], random(r, 4))
			if same := string(changed) == string(b); (sum(t, changed) == before) != same {
				t.Error(n, at, same)
			}
		}
	}
}

func TestChangesOfOneByte(t *testing.T) {
	b := filled(40)
	before := sum(t, b)
	for i := range b {
		for change := 1; change < 256; change++ {
			b[i] ^= byte(change)
			if sum(t, b) == before {
				t.Error(i, change)
			}
			b[i] ^= byte(change)
		}
	}
}
