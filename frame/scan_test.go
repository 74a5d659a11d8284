package frame_test

import (
	"bytes"
	"slices"
	"testing"

	"siding/api"
	"siding/crc"
	"siding/frame"
)

// P3.2

func TestScanExamples(t *testing.T) {
	first, second, third := encoded(1, 1, []byte("a")), encoded(1, 2, []byte("b")), encoded(1, 3, []byte("c"))
	finds(t, "1, 2", slices.Concat(first, second), []api.Record{record(1, "a"), record(2, "b")}, 26)
	finds(t, "1, 3", slices.Concat(first, third), []api.Record{record(1, "a")}, 13)
	finds(t, "25 bytes", slices.Concat(first, second)[:25], []api.Record{record(1, "a")}, 13)
}

func TestScanOfOneRecord(t *testing.T) {
	for _, num := range validNums {
		for _, n := range lengths {
			r := api.Record{Num: num, Data: filled(n)}
			finds(t, "one", encoded(uint32(n), uint32(num), r.Data), []api.Record{r}, n+12)
		}
	}
}

func TestScanWithoutARecord(t *testing.T) {
	for _, b := range [][]byte{nil, {}, {0}, filled(11), make([]byte, 11), make([]byte, 12), filled(12), filled(500), make([]byte, 500), bytes.Repeat([]byte{0xff}, 2000), filled(api.MaxDisk), make([]byte, api.MaxDisk)} {
		finds(t, "none", b, nil, 0)
	}
}

func TestScanOfTheMostBytes(t *testing.T) {
	finds(t, "long records", all(t, most()), most(), api.MaxDisk)
	finds(t, "short records", all(t, smallest(1666)), smallest(1666), 1666*12)
	finds(t, "short records and a part", append(all(t, smallest(1666)), make([]byte, 8)...), smallest(1666), 1666*12)
}

func TestScanOfTooManyBytes(t *testing.T) {
	for _, b := range [][]byte{append(all(t, most()), 0), filled(api.MaxDisk + 1), make([]byte, api.MaxDisk+12), filled(1 << 20), append(encoded(0, 0, nil), make([]byte, api.MaxDisk)...)} {
		if l, n, e := frame.Scan(b); len(l) != 0 || n != 0 || e != api.ErrMany {
			t.Error(len(b), len(l), n, e)
		}
	}
}

func TestNumbersOfRecordsBehindOthers(t *testing.T) {
	for _, num := range []int{0, 1, 5, 255, 256, api.MaxNum - 1, api.MaxNum} {
		for _, other := range append([]int{num - 256, num - 2, num - 1, num, num + 1, num + 2, num + 256}, validNums...) {
			if other < 0 || other > api.MaxNum {
				continue
			}
			l := []api.Record{record(num, "one"), record(other, "other")}
			if other == num+1 {
				finds(t, "next", all(t, l), l, 32)
			} else {
				finds(t, "not next", all(t, l), l[:1], 15)
			}
		}
	}
}

// A number counts from that of the record before, not from that of the first one.
func TestNumbersOfThirdRecords(t *testing.T) {
	for other := range 8 {
		l := []api.Record{record(3, ""), record(4, ""), record(other, "")}
		if other == 5 {
			finds(t, "next", all(t, l), l, 36)
		} else {
			finds(t, "not next", all(t, l), l[:2], 24)
		}
	}
}

func TestNothingIsFoundBehindTheEnd(t *testing.T) {
	first, next := encoded(1, 1, []byte("a")), encoded(1, 2, []byte("b"))
	for _, between := range [][]byte{{0}, {1}, first, encoded(0, 9, nil), make([]byte, 12), filled(30)} {
		finds(t, "between", slices.Concat(first, between, next), []api.Record{record(1, "a")}, 13)
		if !bytes.Equal(between, first) {
			finds(t, "before", slices.Concat(between[:1], first, next), nil, 0)
		}
	}
}

// Lengths, and numbers, with the right sum, but such that no valid record has.
func TestScanOfHeadsThatAreNotValid(t *testing.T) {
	before := encoded(0, api.MaxNum, nil)
	for _, n := range []uint32{api.MaxNum + 1, api.MaxNum + 2, 1 << 30, 1<<31 - 1, 1 << 31, 1<<32 - 1} {
		finds(t, "number", encoded(1, n, []byte("a")), nil, 0)
		finds(t, "number behind", slices.Concat(before, encoded(1, n, []byte("a"))), []api.Record{{Num: api.MaxNum}}, 12)
	}
	for _, n := range []int{api.MaxData + 1, api.MaxData + 2, 1 << 11, api.MaxDisk - 12} {
		finds(t, "length", encoded(uint32(n), 1, filled(n)), nil, 0)
	}
	for _, n := range []uint32{1, 2, 255, 256, 1 << 16, 1 << 24, 1<<31 - 12, 1<<31 - 1, 1 << 31, 1<<32 - 12, 1<<32 - 1} {
		finds(t, "length of what is not there", encoded(n, 1, nil), nil, 0)
	}
	for _, n := range []uint32{0, 1, 2, 4, 6, 7, 256 + 5, 1<<16 + 5, 1<<24 + 5, 1<<31 + 5, 1<<32 - 5} {
		finds(t, "length of another", encoded(n, 1, []byte("abcde")), nil, 0)
	}
}

func TestScanOfTornRecords(t *testing.T) {
	for _, n := range lengths {
		whole := encoded(uint32(n), 8, filled(n))
		for size := range whole {
			finds(t, "torn", whole[:size], nil, 0)
			finds(t, "torn behind", slices.Concat(encoded(2, 7, []byte("ab")), whole[:size]), []api.Record{record(7, "ab")}, 14)
		}
	}
}

// A torn record is not made whole by the memory behind the bytes.
func TestScanStopsAtTheLength(t *testing.T) {
	whole := all(t, row(4, 3, 9))
	for size := range whole {
		want, used := scanned(bytes.Clone(whole[:size]))
		finds(t, "capacity", whole[:size], want, used)
	}
}

// Four bytes can give a longer record the sum of a shorter one, so that both lengths make a valid record.
func TestTheLengthDecidesBetweenTwoRecords(t *testing.T) {
	short, long := encoded(2, 6, []byte("ab")), encoded(9, 6, nil)[:8]
	sum := uint32(short[8]) | uint32(short[9])<<8 | uint32(short[10])<<16 | uint32(short[11])<<24
	four, e := crc.Tail(append(bytes.Clone(long), "abcde"...), sum)
	if e != api.OK {
		t.Fatal(e)
	}
	data := append([]byte("abcde"), four[:]...)
	b := encoded(9, 6, data)
	finds(t, "long", b, []api.Record{{Num: 6, Data: data}}, 21)
	b[0] = 2
	finds(t, "short", b, []api.Record{record(6, "ab")}, 14)
}

// A record may hold the bytes of others.
func TestRecordsInARecord(t *testing.T) {
	inner := all(t, row(2, 0, 5))
	l := []api.Record{{Num: 1, Data: inner}, record(2, "b")}
	finds(t, "outer", all(t, l), l, 12+len(inner)+13)
}
