package wal_test

import (
	"slices"
	"testing"

	"siding/api"
	"siding/wal"
)

// P4.1: Check

// validLogs are logs of all kinds, by what they are.
func validLogs() map[string]api.Log {
	return map[string]api.Log{
		"the zero value":               {},
		"none":                         empty(100, 0),
		"none, at a number":            empty(100, 7),
		"none, at the greatest number": empty(100, api.MaxNum),
		"none, behind all numbers":     empty(100, api.MaxNum+1),
		"none, without capacity":       empty(0, 5),
		"one":                          with(0, 0, "a"),
		"one, synced":                  with(13, 0, "a"),
		"one, synced in part":          with(5, 9, "a"),
		"one without bytes":            with(0, 3, ""),
		"one on a full device":         full(13, 5, "a"),
		"the greatest one":             with(0, 3, text(api.MaxData)),
		"the greatest number":          with(13, api.MaxNum, "a"),
		"up to the greatest number":    with(0, api.MaxNum-2, "", "a", "b"),
		"some":                         with(14, 5, "a", "bc", "", text(300)),
		"some, synced":                 with(39, 5, "a", "bc", ""),
		"some, between two":            with(13, 5, "a", "bc", ""),
		"some, none synced":            with(0, 5, "a", "bc", ""),
		"as many bytes as there can be": full(19767, 1, slices.Concat(
			slices.Repeat([]string{text(api.MaxData)}, 19), []string{text(760)})...),
		"as many records as there can be": with(9999, 0, make([]string, api.MaxDisk/12)...),
	}
}

// bytesOnly is a log with any bytes, and any numbers.
func bytesOnly(b []byte, first, next int) api.Log {
	return api.Log{Dev: device(api.MaxDisk, b, len(b)/2), First: first, Next: next}
}

// changed are bytes of which one is changed.
func changed(b []byte, at int) []byte {
	b = slices.Clone(b)
	b[at] ^= 1
	return b
}

// badLogs are logs that are not valid, by the reason.
func badLogs() map[string]api.Log {
	b := row(5, "a", "bc", "")
	logs := map[string]api.Log{
		"first too small":        bytesOnly(b, 4, 8),
		"first too great":        bytesOnly(b, 6, 8),
		"next too small":         bytesOnly(b, 5, 7),
		"next too great":         bytesOnly(b, 5, 9),
		"both from 0 on":         bytesOnly(b, 0, 3),
		"first and next at last": bytesOnly(b, 8, 8),
		"first and next at 5":    bytesOnly(b, 5, 5),
		"zero numbers":           bytesOnly(b, 0, 0),
		"torn":                   bytesOnly(b[:len(b)-1], 5, 7),
		"torn to one byte":       bytesOnly(b[:28], 5, 7),
		"torn, none":             bytesOnly(b[:12], 5, 5),
		"torn, numbers of all":   bytesOnly(b[:len(b)-1], 5, 8),
		"a byte behind":          bytesOnly(append(slices.Clone(b), 0), 5, 8),
		"a byte alone":           bytesOnly([]byte{0}, 5, 5),
		"begins with a byte":     bytesOnly(append([]byte{0}, b...), 5, 8),
		"a changed byte":         bytesOnly(changed(b, 20), 5, 8),
		"a changed byte at last": bytesOnly(changed(b, len(b)-1), 5, 8),
		"a changed byte, cut":    bytesOnly(changed(b, 20), 5, 6),
		"a gap":                  bytesOnly(append(row(5, "a"), row(7, "b")...), 5, 8),
		"a gap, cut":             bytesOnly(append(row(5, "a"), row(7, "b")...), 5, 6),
		"a number twice":         bytesOnly(append(row(5, "a"), row(5, "a")...), 5, 6),
		"a number back":          bytesOnly(append(row(5, "a"), row(4, "b")...), 5, 5),
		"a great number":         bytesOnly(row(api.MaxNum+1, "a"), api.MaxNum+1, api.MaxNum+2),
		"up to a great number":   bytesOnly(row(api.MaxNum, "a", "b"), api.MaxNum, api.MaxNum+2),
		"too many bytes":         bytesOnly(row(0, text(api.MaxData+1)), 0, 1),
		"next less, none":        {Dev: api.Device{Cap: 10}, First: 5, Next: 4},
		"next greater, none":     {Dev: api.Device{Cap: 10}, First: 5, Next: 6},
		"behind all by two":      empty(10, api.MaxNum+2),
		"one before all":         empty(10, -1),
		"down":                   {Dev: down(100, b), First: 5, Next: 8},
		"down, none":             {Dev: down(100, nil), First: 5, Next: 5},
		"down with a tail":       {Dev: api.Device{Synced: b[:13], Tail: b[13:], Cap: 100, Down: true}, First: 5, Next: 8},
		"more than the capacity": {Dev: device(len(b)-1, b, 13), First: 5, Next: 8},
		"negative capacity":      empty(-1, 0),
		"great capacity":         empty(api.MaxDisk+1, 0),
		"great device": {Dev: device(api.MaxDisk+12, row(0, make([]string, 1667)...), 0),
			First: 0, Next: 1667},
	}
	return logs
}

func TestCheck(t *testing.T) {
	for what, l := range validLogs() {
		if e := wal.Check(l); e != api.OK {
			t.Error(what, e)
		}
	}
	for what, l := range badLogs() {
		if e := wal.Check(l); e != api.ErrBad {
			t.Error(what, e)
		}
	}
	for _, n := range extremes {
		if e := wal.Check(empty(100, n)); e != api.ErrBad {
			t.Error("none, at", n, e)
		}
		if e := wal.Check(api.Log{First: n}); e != api.ErrBad {
			t.Error("first", n, e)
		}
		if e := wal.Check(api.Log{Next: n}); e != api.ErrBad {
			t.Error("next", n, e)
		}
		if e := wal.Check(empty(n, 0)); n <= -1 && e != api.ErrBad {
			t.Error("capacity", n, e)
		}
	}
}

// Where what is synced ends says nothing about the validity of a log.
func TestCheckWithAnySyncedBytes(t *testing.T) {
	b := row(5, "a", "bc", "")
	for n := range len(b) + 1 {
		l := api.Log{Dev: device(len(b), b, n), First: 5, Next: 8}
		if e := wal.Check(l); e != api.OK {
			t.Error(n, e)
		}
		l.Next = 7
		if e := wal.Check(l); e != api.ErrBad {
			t.Error(n, e)
		}
	}
}

// Each beginning of the bytes is valid only if it ends between records.
func TestCheckBeginnings(t *testing.T) {
	b := row(5, "a", "bc", "", "def")
	ends := map[int]int{0: 5, 13: 6, 27: 7, 39: 8, 54: 9}
	for n := range len(b) + 1 {
		for next := 4; next <= 10; next++ {
			want := api.ErrBad
			if end, ok := ends[n]; ok && end == next {
				want = api.OK
			}
			if e := wal.Check(bytesOnly(b[:n], 5, next)); e != want {
				t.Error(n, next, e)
			}
		}
	}
}

// Functions with a log return Check's error first.
func TestLogsAreCheckedFirst(t *testing.T) {
	for what, l := range badLogs() {
		for _, n := range append(slices.Clone(extremes), 0, 1, l.First, l.Next) {
			got, num, e := wal.Append(l, make([]byte, max(0, min(n, 2000))))
			wantLog(t, what, got, e, api.Log{}, api.ErrBad)
			if num != 0 {
				t.Error(what, num)
			}
			if r, e := wal.Records(l, n); len(r) != 0 || e != api.ErrBad {
				t.Error(what, r, e)
			}
			got, e = wal.Drop(l, n)
			wantLog(t, what, got, e, api.Log{}, api.ErrBad)
			d, e := wal.Crash(l, n)
			wantDevice(t, what, d, e, api.Device{}, api.ErrBad)
		}
		got, e := wal.Sync(l)
		wantLog(t, what, got, e, api.Log{}, api.ErrBad)
		if n, e := wal.Synced(l); n != 0 || e != api.ErrBad {
			t.Error(what, n, e)
		}
	}
}
