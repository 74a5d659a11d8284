package frame_test

import (
	"bytes"
	"encoding/binary"
	"hash/crc32"
	"math"
	"slices"
	"testing"

	"siding/api"
	"siding/frame"
)

// validNums are numbers that a record may have, each byte of them used by one.
var validNums = []int{0, 1, 2, 127, 128, 255, 256, 65535, 65536, 0x01020304, 1 << 24, 1 << 29, api.MaxNum - 1, api.MaxNum}

// badNums are numbers that no record has, among them those whose lowest 32 bits are the number of one.
var badNums = []int{math.MinInt, math.MinInt + 1, math.MinInt32, -1 << 32, -api.MaxNum, -2, -1, api.MaxNum + 1, math.MaxInt32, math.MaxUint32, 1 << 32, 1<<32 + 1, math.MaxInt - 1, math.MaxInt}

// lengths are numbers of bytes that a record may have.
var lengths = []int{0, 1, 2, 3, 4, 11, 12, 13, 254, 255, 256, 257, 511, 512, api.MaxData - 1, api.MaxData}

func record(num int, data string) api.Record { return api.Record{Num: num, Data: []byte(data)} }

func filled(n int) []byte {
	b := make([]byte, n)
	for i := range b {
		b[i] = byte(i*37 + i/256 + 1)
	}
	return b
}

// row is a row of records with these numbers of bytes, their own numbers beginning with first.
func row(first int, lengths ...int) []api.Record {
	var l []api.Record
	for i, n := range lengths {
		l = append(l, api.Record{Num: first + i, Data: filled(n)})
	}
	return l
}

// encoded are the bytes of a record with any length and number of 32 bits, made with Go's own library.
func encoded(length, num uint32, data []byte) []byte {
	head := binary.LittleEndian.AppendUint32(binary.LittleEndian.AppendUint32(nil, length), num)
	sum := crc32.ChecksumIEEE(slices.Concat(head, data))
	return slices.Concat(binary.LittleEndian.AppendUint32(head, sum), data)
}

// scanned is what a scan finds: it tries all lengths, and compares whole records.
func scanned(b []byte) ([]api.Record, int) {
	var l []api.Record
	used := 0
next:
	for {
		rest := b[used:]
		for n := range min(len(rest), api.MaxData+12) - 11 {
			num := binary.LittleEndian.Uint32(rest[4:])
			if num > api.MaxNum || len(l) > 0 && int(num) != l[len(l)-1].Num+1 {
				continue
			}
			if rest[0] == byte(n) && bytes.HasPrefix(rest, encoded(uint32(n), num, rest[12:12+n])) {
				l = append(l, api.Record{Num: int(num), Data: rest[12 : 12+n]})
				used += 12 + n
				continue next
			}
		}
		return l, used
	}
}

func same(a, b []api.Record) bool {
	return slices.EqualFunc(a, b, func(x, y api.Record) bool { return x.Num == y.Num && bytes.Equal(x.Data, y.Data) })
}

func all(t *testing.T, l []api.Record) []byte {
	t.Helper()
	b, e := frame.All(l)
	if e != api.OK {
		t.Fatal(len(l), e)
	}
	return b
}

// finds fails unless a scan finds these records and uses so many bytes.
func finds(t *testing.T, what string, b []byte, l []api.Record, used int) {
	t.Helper()
	got, n, e := frame.Scan(b)
	if e != api.OK || n != used || !same(got, l) {
		t.Errorf("%s: got %d records, %d bytes, %d, want %d records, %d bytes", what, len(got), n, e, len(l), used)
	}
}
