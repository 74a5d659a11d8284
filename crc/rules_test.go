package crc_test

import (
	"bytes"
	"testing"

	"siding/api"
	"siding/crc"
)

// R2

func TestArgumentsStay(t *testing.T) {
	all := filled(60)
	for _, n := range []int{0, 1, 3, 4, 20, 60} {
		b := all[:n]
		crc.Sum(b)
		crc.Update(7, b)
		crc.Tail(b, 7)
		if !bytes.Equal(all, filled(60)) {
			t.Fatal(n)
		}
	}
}

func TestArgumentsStayWithAnError(t *testing.T) {
	all := filled(api.MaxDisk + 9)
	b := all[:api.MaxDisk+1]
	crc.Sum(b)
	crc.Update(7, b)
	crc.Tail(b, 7)
	if !bytes.Equal(all, filled(api.MaxDisk+9)) {
		t.Fatal("changed")
	}
}

func TestNothingIsKept(t *testing.T) {
	b, other := filled(33), filled(9)
	type results struct {
		sum, update, row, join uint32
		tail                   [4]byte
	}
	all := func() (r results) {
		r.sum, _ = crc.Sum(b)
		r.update, _ = crc.Update(5, b)
		r.row, _ = crc.Row(77)
		r.join, _ = crc.Join(3, 4, 55)
		r.tail, _ = crc.Tail(b, 6)
		return r
	}
	first := all()
	crc.Sum(other)
	crc.Update(1, other)
	crc.Row(256)
	crc.Join(1, 2, 9)
	crc.Join(1, 2, -1)
	crc.Tail(other, 1)
	if second := all(); first != second {
		t.Error(first, second)
	}
}

// R3

func TestNilAndEmptyBytesAreEqual(t *testing.T) {
	for _, b := range [][]byte{nil, {}, filled(5)[:0]} {
		if got := sum(t, b); got != 0 {
			t.Errorf("%#x", got)
		}
		if got := update(t, 0xCBF43926, b); got != 0xCBF43926 {
			t.Errorf("%#x", got)
		}
		if got := tail(t, b, 0x2144DF1C); !bytes.Equal(got, make([]byte, 4)) {
			t.Error(got)
		}
	}
}
