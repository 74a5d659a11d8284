package wal_test

import (
	"fmt"
	"slices"
	"testing"

	"siding/api"
	"siding/wal"
)

// P4.2

func TestAppend(t *testing.T) {
	for _, c := range []struct {
		what string
		l    api.Log
		data string
		want api.Log
	}{
		{"first", empty(api.MaxDisk, 5), "a", with(0, 5, "a")},
		{"the number 0", empty(api.MaxDisk, 0), "a", with(0, 0, "a")},
		{"behind synced", with(13, 5, "a"), "bc", with(13, 5, "a", "bc")},
		{"behind synced in part", with(4, 5, "a"), "bc", with(4, 5, "a", "bc")},
		{"behind others", with(0, 5, "a", "bc"), "d", with(0, 5, "a", "bc", "d")},
		{"no bytes", with(13, 5, "a"), "", with(13, 5, "a", "")},
		{"the greatest", with(13, 5, "a"), text(api.MaxData), with(13, 5, "a", text(api.MaxData))},
		{"the greatest first", empty(api.MaxDisk, 9), text(api.MaxData), with(0, 9, text(api.MaxData))},
		{"the greatest number", empty(api.MaxDisk, api.MaxNum), "a", with(0, api.MaxNum, "a")},
		{"up to the greatest number", with(0, api.MaxNum-1, "a"), "b", with(0, api.MaxNum-1, "a", "b")},
	} {
		got, num, e := wal.Append(c.l, []byte(c.data))
		wantLog(t, c.what, got, e, c.want, api.OK)
		if num != c.l.Next {
			t.Error(c.what, num)
		}
		if e := wal.Check(got); e != api.OK {
			t.Error(c.what, e)
		}
	}
}

func TestAppendUpToTheCapacity(t *testing.T) {
	for _, n := range []int{0, 1, 2, 500, api.MaxData} {
		for _, data := range [][]string{nil, {"ab", ""}} {
			l, want := full(len(row(3, data...))/2, 3, data...), full(len(row(3, data...))/2, 3, append(data, text(n))...)
			used, needed := l.Dev.Cap, want.Dev.Cap
			for _, capacity := range []int{used, used + 1, used + 11, needed - 1} {
				l.Dev.Cap = capacity
				got, num, e := wal.Append(l, []byte(text(n)))
				wantLog(t, fmt.Sprint(n, capacity), got, e, api.Log{}, api.ErrFull)
				if num != 0 {
					t.Error("a number with an error", num)
				}
			}
			for _, capacity := range []int{needed, needed + 1, api.MaxDisk} {
				l.Dev.Cap, want.Dev.Cap = capacity, capacity
				got, num, e := wal.Append(l, []byte(text(n)))
				wantLog(t, fmt.Sprint(n, capacity), got, e, want, api.OK)
				if num != l.Next {
					t.Error(num)
				}
			}
		}
	}
}

func TestAppendToTheGreatestDevice(t *testing.T) {
	l := full(0, 0, slices.Concat(slices.Repeat([]string{text(api.MaxData)}, 19), []string{text(748)})...)
	if l.Dev.Cap != api.MaxDisk-12 {
		t.Fatal(l.Dev.Cap)
	}
	l.Dev.Cap = api.MaxDisk
	got, num, e := wal.Append(l, nil)
	if e != api.OK || num != 20 || len(got.Dev.Tail) != api.MaxDisk || wal.Check(got) != api.OK {
		t.Error(num, e)
	}
	got, num, e = wal.Append(got, nil)
	wantLog(t, "full", got, e, api.Log{}, api.ErrFull)
	if num != 0 {
		t.Error(num)
	}
}

// ErrMany comes before ErrArg, and this before ErrFull.
func TestAppendErrors(t *testing.T) {
	last, lastFull := with(0, api.MaxNum, "a"), full(0, api.MaxNum, "a")
	for _, c := range []struct {
		what string
		l    api.Log
		n    int
		want api.Errno
	}{
		{"too many bytes", empty(api.MaxDisk, 0), api.MaxData + 1, api.ErrMany},
		{"far too many bytes", empty(api.MaxDisk, 0), 3 * api.MaxDisk, api.ErrMany},
		{"too many for the device, too", empty(3, 0), api.MaxData + 1, api.ErrMany},
		{"too many at the last number", last, api.MaxData + 1, api.ErrMany},
		{"too many at the last number of a full device", lastFull, api.MaxData + 1, api.ErrMany},
		{"at the last number", last, 1, api.ErrArg},
		{"nothing at the last number", last, 0, api.ErrArg},
		{"at the last number of a full device", lastFull, 1, api.ErrArg},
		{"behind all numbers", empty(api.MaxDisk, api.MaxNum+1), 1, api.ErrArg},
		{"behind all numbers without room", empty(0, api.MaxNum+1), api.MaxData, api.ErrArg},
		{"no room", empty(0, 0), 0, api.ErrFull},
		{"no room behind others", full(13, 5, "a"), 0, api.ErrFull},
		{"no room at the greatest number", empty(0, api.MaxNum), 0, api.ErrFull},
	} {
		got, num, e := wal.Append(c.l, make([]byte, c.n))
		wantLog(t, c.what, got, e, api.Log{}, c.want)
		if num != 0 {
			t.Error(c.what, num)
		}
	}
}

func TestSync(t *testing.T) {
	for what, l := range validLogs() {
		all := slices.Concat(l.Dev.Synced, l.Dev.Tail)
		want := api.Log{Dev: device(l.Dev.Cap, all, len(all)), First: l.First, Next: l.Next}
		got, e := wal.Sync(l)
		wantLog(t, what, got, e, want, api.OK)
		again, e := wal.Sync(got)
		wantLog(t, fmt.Sprint(what, " again"), again, e, want, api.OK)
	}
}
