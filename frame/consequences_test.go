package frame_test

import (
	"bytes"
	"math/rand/v2"
	"slices"
	"testing"

	"siding/api"
	"siding/frame"
)

// P3.3

func random(r *rand.Rand, n int) []byte {
	b := make([]byte, n)
	for i := range b {
		b[i] = byte(r.Uint32())
	}
	return b
}

// rows are rows of records with numbers one behind the other.
func rows() [][]api.Record {
	r := rand.New(rand.NewPCG(3, 1))
	l := [][]api.Record{nil, smallest(1), smallest(5), most(), row(9, 1, 0, 2), row(api.MaxNum, 4), row(api.MaxNum-3, 0, 1, 0, 7)}
	for range 60 {
		var records []api.Record
		first := r.IntN(api.MaxNum - 10)
		for i := range r.IntN(8) {
			records = append(records, api.Record{Num: first + i, Data: random(r, r.IntN(20)*r.IntN(20))})
		}
		l = append(l, records)
	}
	return l
}

func TestScansFindWhatWasPutTogether(t *testing.T) {
	for _, l := range rows() {
		b := all(t, l)
		finds(t, "alone", b, l, len(b))
	}
}

func TestScansFindRecordsWhateverFollows(t *testing.T) {
	for _, l := range rows() {
		if len(l) == 0 {
			continue
		}
		b, next := all(t, l), uint32(l[len(l)-1].Num+1)
		good := encoded(3, next, []byte("abc"))
		wrong := bytes.Clone(good)
		wrong[8] ^= 1
		for _, more := range [][]byte{{0}, {0xff}, good[:14], wrong, make([]byte, 40), bytes.Repeat([]byte{7}, 13), encoded(3, next+1, []byte("abc")), b} {
			if len(b)+len(more) <= api.MaxDisk {
				finds(t, "followed", slices.Concat(b, more), l, len(b))
			}
		}
	}
}

func TestScansOfBeginnings(t *testing.T) {
	for _, l := range rows() {
		b := all(t, l)
		ends := []int{0}
		for _, r := range l {
			ends = append(ends, ends[len(ends)-1]+12+len(r.Data))
		}
		step := max(1, len(b)/400)
		for size := 0; size <= len(b); size += step {
			whole := 0
			for whole < len(l) && ends[whole+1] <= size {
				whole++
			}
			finds(t, "a beginning", b[:size], l[:whole], ends[whole])
		}
	}
}

func TestWhatAScanUsedIsWhatItFound(t *testing.T) {
	r := rand.New(rand.NewPCG(3, 2))
	for range 3000 {
		b := changed(r, r.IntN(6))
		l, used, e := frame.Scan(b)
		if e != api.OK || used > len(b) || used < 0 {
			t.Fatal(used, e)
		}
		if !bytes.Equal(all(t, l), b[:used]) {
			t.Errorf("% x: %d", b, used)
		}
		finds(t, "again", b[:used], l, used)
		want, n := scanned(b)
		finds(t, "by the model", b, want, n)
	}
}

// changed are the bytes of a row of records after some changes.
func changed(r *rand.Rand, changes int) []byte {
	var b []byte
	first := r.IntN(3)
	for i := range 1 + r.IntN(6) {
		data := random(r, r.IntN(4)*r.IntN(30))
		b = append(b, encoded(uint32(len(data)), uint32(first+i), data)...)
	}
	for range changes {
		at := r.IntN(len(b))
		switch r.IntN(5) {
		case 0:
			b[at] ^= 1 << r.IntN(8)
		case 1:
			b = append(b[:at], encoded(0, uint32(r.IntN(5)), nil)...)
		case 2:
			b = append(b, random(r, r.IntN(30))...)
		case 3:
			b = slices.Concat(b, b[at:])
		case 4:
			b = b[:max(at, 1)]
		}
	}
	return b
}

// All 255 changes of each byte of a record, that is in the middle of others, but those of its length.
func TestChangedBytes(t *testing.T) {
	for _, n := range []int{0, 1, 5, 40} {
		l := []api.Record{record(70, "before"), {Num: 71, Data: filled(n)}, record(72, "behind")}
		b := all(t, l)
		for i := 18 + 4; i < 18+12+n; i++ {
			for change := 1; change < 256; change++ {
				b[i] ^= byte(change)
				finds(t, "changed", b, l[:1], 18)
				finds(t, "changed at once", b[18:], nil, 0)
				b[i] ^= byte(change)
			}
		}
		finds(t, "unchanged", b, l, len(b))
	}
}

func TestChangedBytesOfTheGreatestRecord(t *testing.T) {
	b := all(t, row(api.MaxNum, api.MaxData))
	for i := 4; i < len(b); i++ {
		for _, change := range []byte{1, 0x80, 0xff} {
			b[i] ^= change
			finds(t, "changed", b, nil, 0)
			b[i] ^= change
		}
	}
}

// A changed length may make another record, but only one that the model finds, too.
func TestChangedLengths(t *testing.T) {
	l := []api.Record{record(70, "before"), {Num: 71, Data: filled(300)}, record(72, "behind")}
	b := all(t, l)
	for i := 18; i < 18+4; i++ {
		for change := 1; change < 256; change++ {
			b[i] ^= byte(change)
			want, used := scanned(b)
			finds(t, "changed", b, want, used)
			b[i] ^= byte(change)
		}
	}
}
