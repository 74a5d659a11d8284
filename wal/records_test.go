package wal_test

import (
	"testing"

	"siding/api"
	"siding/wal"
)

// P4.3

func TestSynced(t *testing.T) {
	for _, c := range []struct {
		what string
		l    api.Log
		want int
	}{
		{"the zero value", api.Log{}, 0},
		{"none", empty(9, 5), 5},
		{"none, behind all numbers", empty(9, api.MaxNum+1), api.MaxNum + 1},
		{"the greatest number", with(13, api.MaxNum, "a"), api.MaxNum + 1},
		{"the greatest number, not synced", with(12, api.MaxNum, "a"), api.MaxNum},
		{"one without bytes", with(12, 5, ""), 6},
		{"one without bytes, not synced", with(11, 5, ""), 5},
	} {
		if n, e := wal.Synced(c.l); n != c.want || e != api.OK {
			t.Error(c.what, n, e)
		}
	}
}

// A record is synced as soon as its last byte is.
func TestSyncedAtEachByte(t *testing.T) {
	data := []string{"a", "", "bc", "", text(30)}
	ends := []int{13, 25, 39, 51, 93}
	for n := range 93 + 1 {
		want := 5
		for _, end := range ends {
			if end <= n {
				want++
			}
		}
		if got, e := wal.Synced(with(n, 5, data...)); got != want || e != api.OK {
			t.Error(n, got, e)
		}
	}
}

func TestRecords(t *testing.T) {
	l := with(14, 5, "a", "bc", "", text(40))
	wantRecords(t, "all", l, 5, "a", "bc", "", text(40))
	wantRecords(t, "from 6", l, 6, "bc", "", text(40))
	wantRecords(t, "from 7", l, 7, "", text(40))
	wantRecords(t, "from 8", l, 8, text(40))
	wantRecords(t, "from Next", l, 9)
	wantRecords(t, "the zero value", api.Log{}, 0)
	wantRecords(t, "none", empty(9, 5), 5)
	wantRecords(t, "behind all numbers", empty(9, api.MaxNum+1), api.MaxNum+1)
	wantRecords(t, "the greatest number", with(0, api.MaxNum, "a"), api.MaxNum, "a")
	wantRecords(t, "behind the greatest number", with(0, api.MaxNum, "a"), api.MaxNum+1)
	wantRecords(t, "the number 0", with(0, 0, "", "a"), 0, "", "a")
	wantRecords(t, "the greatest one", with(0, 0, text(api.MaxData)), 0, text(api.MaxData))
}

// What is synced does not matter for what there is.
func TestRecordsWithAnySyncedBytes(t *testing.T) {
	for n := range 39 + 1 {
		wantRecords(t, "all", with(n, 5, "a", "bc", ""), 5, "a", "bc", "")
		wantRecords(t, "from 6", with(n, 5, "a", "bc", ""), 6, "bc", "")
	}
}

func TestManyRecords(t *testing.T) {
	data := make([]string, api.MaxDisk/12)
	l := with(100, 3, data...)
	for _, from := range []int{3, 4, 1000, len(data) + 2, len(data) + 3} {
		wantRecords(t, "many", l, from, data[from-3:]...)
	}
}

func TestRecordsErrors(t *testing.T) {
	for _, l := range []api.Log{with(14, 5, "a", "bc", ""), with(0, 0, "a"), empty(9, 5), {}, empty(9, api.MaxNum+1)} {
		for _, from := range append([]int{l.First - 1, l.Next + 1, l.First - 2, l.Next + 9}, extremes...) {
			if r, e := wal.Records(l, from); len(r) != 0 || e != api.ErrArg {
				t.Error(l.First, l.Next, from, r, e)
			}
		}
	}
}
