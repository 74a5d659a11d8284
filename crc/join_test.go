package crc_test

import (
	"hash/crc32"
	"math"
	"testing"

	"siding/api"
	"siding/crc"
)

// P2.2

func TestJoinExample(t *testing.T) {
	if got := join(t, sum(t, []byte("1234")), sum(t, []byte("56789")), 5); got != 0xCBF43926 {
		t.Errorf("%#x", got)
	}
}

func TestJoinsOfAllCuts(t *testing.T) {
	for _, n := range []int{0, 1, 2, 9, 40, 300} {
		b := filled(n)
		for k := range n + 1 {
			first, second := crc32.ChecksumIEEE(b[:k]), crc32.ChecksumIEEE(b[k:])
			if got := join(t, first, second, n-k); got != crc32.ChecksumIEEE(b) {
				t.Errorf("%d of %d: %#x", k, n, got)
			}
		}
	}
}

func TestJoinWithTheEmptyPart(t *testing.T) {
	for _, a := range registers {
		if got := join(t, a, 0, 0); got != a {
			t.Errorf("behind %#x: %#x", a, got)
		}
	}
	for _, n := range lengths {
		b := sum(t, filled(n))
		if got := join(t, 0, b, n); got != b {
			t.Errorf("before %#x: %#x", b, got)
		}
	}
}

func TestJoinOfNoBytesTakesAnySum(t *testing.T) {
	for _, a := range registers {
		for _, b := range registers {
			if got := join(t, a, b, 0); got != a^b {
				t.Errorf("%#x, %#x: %#x", a, b, got)
			}
		}
	}
}

// Any number is the sum of some bytes, if there are at least four of them.
func TestJoinOfAnySums(t *testing.T) {
	for _, a := range registers {
		for _, b := range registers {
			for _, n := range []int{4, 5, 8, 100, 4097, 65536} {
				if got := join(t, a, b, n); got != joined(a, b, n) {
					t.Errorf("%#x, %#x, %d: %#x", a, b, n, got)
				}
			}
		}
	}
}

func TestJoinDoesNotDependOnTheBytes(t *testing.T) {
	const wanted = 0xCAFE1234
	first := [][]byte{[]byte("some"), filled(3), nil}
	second := [][]byte{[]byte("other bytes"), filled(11), make([]byte, 11)}
	for _, x := range first {
		x = append(x[:len(x):len(x)], tail(t, x, wanted)...)
		for _, y := range second {
			y = append(y[:len(y):len(y)], tail(t, y, ^uint32(wanted))...)
			both := append(x[:len(x):len(x)], y...)
			if got := join(t, wanted, ^uint32(wanted), 15); got != crc32.ChecksumIEEE(both) {
				t.Errorf("%q %q: %#x", x, y, got)
			}
		}
	}
}

func TestJoinOfManyBytes(t *testing.T) {
	for _, n := range []int{1 << 20, 1<<24 - 1, 123456789, 1 << 29, 1<<29 - 1, api.MaxNum - 1, api.MaxNum} {
		for _, a := range []uint32{0, 1, 0xCBF43926} {
			if got := join(t, a, 0x12345678, n); got != joined(a, 0x12345678, n) {
				t.Errorf("%#x, %d: %#x", a, n, got)
			}
		}
	}
}

func TestJoinsInAnyOrder(t *testing.T) {
	for _, n := range []int{0, 1, 77, 1 << 20, api.MaxNum / 2} {
		for _, k := range []int{0, 1, 5, 1 << 15, api.MaxNum / 2} {
			a, b, c := uint32(0x01020304), uint32(0xF0E0D0C0), uint32(0x55AA55AA)
			left := join(t, join(t, a, b, n), c, k)
			right := join(t, a, join(t, b, c, k), n+k)
			if left != right {
				t.Errorf("%d, %d: %#x, %#x", n, k, left, right)
			}
		}
	}
}

func TestNoOtherJoins(t *testing.T) {
	for _, n := range append([]int{api.MaxNum + 2, math.MaxInt32}, outside...) {
		for _, a := range registers {
			if got, e := crc.Join(a, ^a, n); got != 0 || e != api.ErrArg {
				t.Error(a, n, got, e)
			}
		}
	}
}
