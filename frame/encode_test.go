package frame_test

import (
	"bytes"
	"slices"
	"testing"

	"siding/api"
	"siding/frame"
)

// P3.1

func TestKnownBytes(t *testing.T) {
	for _, c := range []struct {
		r    api.Record
		want string
	}{
		{api.Record{}, "\x00\x00\x00\x00\x00\x00\x00\x00\x69\xdf\x22\x65"},
		{record(1, "a"), "\x01\x00\x00\x00\x01\x00\x00\x00\x93\x78\xa7\xf6a"},
		{record(2, "b"), "\x01\x00\x00\x00\x02\x00\x00\x00\xf9\x53\x0e\x28b"},
		{record(0x01020304, "siding"), "\x06\x00\x00\x00\x04\x03\x02\x01\x7d\xea\x33\x3fsiding"},
		{record(api.MaxNum, ""), "\x00\x00\x00\x00\x00\xca\x9a\x3b\x4b\x47\xbf\xc3"},
	} {
		b, e := frame.Encode(c.r)
		if string(b) != c.want || e != api.OK {
			t.Errorf("%v: % x, %d", c.r, b, e)
		}
		if n, e := frame.Size(c.r); n != len(c.want) || e != api.OK {
			t.Errorf("%v: %d, %d", c.r, n, e)
		}
	}
}

func TestSizesAndBytes(t *testing.T) {
	for _, num := range validNums {
		for _, n := range lengths {
			r := api.Record{Num: num, Data: filled(n)}
			if size, e := frame.Size(r); size != n+12 || e != api.OK {
				t.Error("Size", num, n, size, e)
			}
			if b, e := frame.Encode(r); !bytes.Equal(b, encoded(uint32(n), uint32(num), r.Data)) || e != api.OK {
				t.Error("Encode", num, n, b, e)
			}
		}
	}
}

// badRecords are not valid, each for a reason of its own, or for two.
func badRecords() []api.Record {
	l := []api.Record{
		{Data: filled(api.MaxData + 1)},
		{Num: api.MaxNum, Data: filled(api.MaxData + 2)},
		{Data: filled(1 << 16)},
		{Data: filled(api.MaxDisk + 1)},
		{Num: -1, Data: filled(api.MaxData + 1)},
		{Num: api.MaxNum + 1, Data: filled(api.MaxData + 1)},
	}
	for _, num := range badNums {
		l = append(l, api.Record{Num: num}, api.Record{Num: num, Data: filled(5)}, api.Record{Num: num, Data: filled(api.MaxData)})
	}
	return l
}

func TestRecordsThatAreNotValid(t *testing.T) {
	for _, r := range badRecords() {
		if n, e := frame.Size(r); n != 0 || e != api.ErrBad {
			t.Error("Size", r.Num, len(r.Data), n, e)
		}
		if b, e := frame.Encode(r); len(b) != 0 || e != api.ErrBad {
			t.Error("Encode", r.Num, len(r.Data), b, e)
		}
		for _, l := range [][]api.Record{{r}, {r, record(1, "a")}, {record(1, "a"), r}, {record(1, "a"), r, record(3, "b")}} {
			if b, e := frame.All(l); len(b) != 0 || e != api.ErrBad {
				t.Error("All", len(l), r.Num, len(r.Data), b, e)
			}
		}
	}
}

func TestBytesOfNoRecords(t *testing.T) {
	for _, l := range [][]api.Record{nil, {}, row(1, 1)[:0]} {
		if b, e := frame.All(l); len(b) != 0 || e != api.OK {
			t.Error(b, e)
		}
	}
}

// The numbers of records that are put together need not be in order.
func TestBytesOfSomeRecords(t *testing.T) {
	for _, l := range [][]api.Record{
		{record(0, "")},
		{record(7, "x")},
		row(5, 0, 1, 12, 0, 300),
		row(api.MaxNum-2, 3, api.MaxData, 0),
		{record(3, "c"), record(3, "c"), record(2, "b"), record(9, "")},
		{record(api.MaxNum, "last"), record(0, "first")},
	} {
		var want []byte
		for _, r := range l {
			b, e := frame.Encode(r)
			if e != api.OK {
				t.Fatal(r, e)
			}
			want = append(want, b...)
		}
		if got := all(t, l); !bytes.Equal(got, want) {
			t.Errorf("%v: % x", l, got)
		}
	}
}

// most is a row of records whose bytes are just as many as are allowed.
func most() []api.Record {
	lengths := slices.Repeat([]int{api.MaxData}, 19)
	return row(0, append(lengths, api.MaxDisk-19*(api.MaxData+12)-12)...)
}

// smallest is a row of so many records without Data.
func smallest(n int) []api.Record { return row(0, make([]int, n)...) }

func TestTheMostBytes(t *testing.T) {
	full := append(smallest(1665), record(9, "12345678"))
	for _, l := range [][]api.Record{most(), full, smallest(1666)} {
		var want []byte
		for _, r := range l {
			want = append(want, encoded(uint32(len(r.Data)), uint32(r.Num), r.Data)...)
		}
		if got := all(t, l); !bytes.Equal(got, want) {
			t.Error(len(l), len(got))
		}
	}
	if got := all(t, most()); len(got) != api.MaxDisk {
		t.Error(len(got))
	}
	if got := all(t, full); len(got) != api.MaxDisk {
		t.Error(len(got))
	}
}

func TestTooManyBytesOfRecords(t *testing.T) {
	longer := most()
	longer[19].Data = append(longer[19].Data, 'x')
	wide := slices.Repeat([]api.Record{{Data: filled(api.MaxData)}}, 300)
	for _, l := range [][]api.Record{longer, append(most(), record(20, "")), smallest(1667), smallest(1 << 16), wide} {
		if b, e := frame.All(l); len(b) != 0 || e != api.ErrMany {
			t.Error(len(l), len(b), e)
		}
	}
}

func TestBadComesBeforeMany(t *testing.T) {
	for _, bad := range badRecords() {
		l := append(append(most(), record(20, "")), bad)
		if b, e := frame.All(l); len(b) != 0 || e != api.ErrBad {
			t.Error("last", bad.Num, len(bad.Data), len(b), e)
		}
		l = append([]api.Record{bad}, append(most(), record(20, ""))...)
		if b, e := frame.All(l); len(b) != 0 || e != api.ErrBad {
			t.Error("first", bad.Num, len(bad.Data), len(b), e)
		}
	}
}
