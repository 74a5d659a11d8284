package wal_test

import (
	"bytes"
	"encoding/binary"
	"hash/crc32"
	"math"
	"slices"
	"testing"

	"siding/api"
	"siding/wal"
)

// extremes are numbers that are no record's, no place and no size.
var extremes = []int{math.MinInt, math.MinInt + 1, math.MinInt32, -1 << 32, -api.MaxNum - 1, -2, -1, api.MaxNum + 2, math.MaxInt32, math.MaxUint32, 1 << 32, math.MaxInt - 1, math.MaxInt}

// encoded are the bytes of a record, made with Go's own library.
func encoded(num int, data string) []byte {
	head := binary.LittleEndian.AppendUint32(nil, uint32(len(data)))
	head = binary.LittleEndian.AppendUint32(head, uint32(num))
	sum := crc32.ChecksumIEEE(slices.Concat(head, []byte(data)))
	return append(binary.LittleEndian.AppendUint32(head, sum), data...)
}

// row are the bytes of records whose numbers begin with first.
func row(first int, data ...string) []byte {
	var b []byte
	for i, s := range data {
		b = append(b, encoded(first+i, s)...)
	}
	return b
}

// device is a device with bytes, of which so many are synced.
func device(capacity int, b []byte, synced int) api.Device {
	return api.Device{Synced: b[:synced:synced], Tail: b[synced:], Cap: capacity}
}

// with is a log of records whose numbers begin with first, and of which so many bytes are synced.
func with(synced, first int, data ...string) api.Log {
	return api.Log{Dev: device(api.MaxDisk, row(first, data...), synced), First: first, Next: first + len(data)}
}

// full is with on a device that is full.
func full(synced, first int, data ...string) api.Log {
	l := with(synced, first, data...)
	l.Dev.Cap = len(l.Dev.Synced) + len(l.Dev.Tail)
	return l
}

// empty is a log without records.
func empty(capacity, next int) api.Log {
	return api.Log{Dev: api.Device{Cap: capacity}, First: next, Next: next}
}

func down(capacity int, b []byte) api.Device {
	return api.Device{Synced: b, Cap: capacity, Down: true}
}

// text has n bytes, that differ from their neighbours.
func text(n int) string {
	b := make([]byte, n)
	for i := range b {
		b[i] = byte(i*37 + i/256 + 1)
	}
	return string(b)
}

func sameDevice(a, b api.Device) bool {
	return bytes.Equal(a.Synced, b.Synced) && bytes.Equal(a.Tail, b.Tail) && a.Cap == b.Cap && a.Down == b.Down
}

func sameLog(a, b api.Log) bool {
	return sameDevice(a.Dev, b.Dev) && a.First == b.First && a.Next == b.Next
}

func sameRecords(a, b []api.Record) bool {
	return slices.EqualFunc(a, b, func(x, y api.Record) bool { return x.Num == y.Num && bytes.Equal(x.Data, y.Data) })
}

func wantLog(t *testing.T, what string, got api.Log, e api.Errno, want api.Log, err api.Errno) {
	t.Helper()
	if e != err || !sameLog(got, want) {
		t.Errorf("%s: got %v, %d, want %v, %d", what, got, e, want, err)
	}
}

func wantDevice(t *testing.T, what string, got api.Device, e api.Errno, want api.Device, err api.Errno) {
	t.Helper()
	if e != err || !sameDevice(got, want) {
		t.Errorf("%s: got %v, %d, want %v, %d", what, got, e, want, err)
	}
}

// wantRecords fails unless a log has records with these bytes, whose numbers begin with from, from there on.
func wantRecords(t *testing.T, what string, l api.Log, from int, data ...string) {
	t.Helper()
	var want []api.Record
	for i, s := range data {
		want = append(want, api.Record{Num: from + i, Data: []byte(s)})
	}
	got, e := wal.Records(l, from)
	if e != api.OK || !sameRecords(got, want) {
		t.Errorf("%s: got %v, %d, want %v", what, got, e, want)
	}
}

func open(t *testing.T, d api.Device, next int) api.Log {
	t.Helper()
	l, e := wal.Open(d, next)
	if e != api.OK {
		t.Fatal("open", next, e)
	}
	return l
}

func add(t *testing.T, l api.Log, data string) api.Log {
	t.Helper()
	l, num, e := wal.Append(l, []byte(data))
	if e != api.OK || num != l.Next-1 {
		t.Fatal("append", num, e)
	}
	return l
}

func synced(t *testing.T, l api.Log) api.Log {
	t.Helper()
	l, e := wal.Sync(l)
	if e != api.OK {
		t.Fatal("sync", e)
	}
	return l
}

func crashed(t *testing.T, l api.Log, keep int) api.Device {
	t.Helper()
	d, e := wal.Crash(l, keep)
	if e != api.OK {
		t.Fatal("crash", keep, e)
	}
	return d
}

func dropped(t *testing.T, l api.Log, before int) api.Log {
	t.Helper()
	l, e := wal.Drop(l, before)
	if e != api.OK {
		t.Fatal("drop", before, e)
	}
	return l
}
