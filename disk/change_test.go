package disk_test

import (
	"math"
	"testing"

	"siding/api"
	"siding/disk"
)

// change is a call that changes a device.
type change func(api.Device) (api.Device, api.Errno)

func appended(s string) change {
	return func(d api.Device) (api.Device, api.Errno) { return disk.Append(d, []byte(s)) }
}

func truncated(n int) change {
	return func(d api.Device) (api.Device, api.Errno) { return disk.Truncate(d, n) }
}

func dropped(n int) change {
	return func(d api.Device) (api.Device, api.Errno) { return disk.Drop(d, n) }
}

func crashed(n int) change {
	return func(d api.Device) (api.Device, api.Errno) { return disk.Crash(d, n) }
}

type row struct {
	what   string
	d      api.Device
	do     change
	result api.Device
	e      api.Errno
}

func wantRows(t *testing.T, rows []row) {
	t.Helper()
	for _, r := range rows {
		got, e := r.do(r.d)
		want(t, r.what, got, e, r.result, r.e)
	}
}

// P1.3

func TestAppend(t *testing.T) {
	none := api.Device{}
	wantRows(t, []row{
		{"first", device(5, "", ""), appended("ab"), device(5, "", "ab"), api.OK},
		{"behind synced", device(5, "ab", ""), appended("c"), device(5, "ab", "c"), api.OK},
		{"behind tail", device(9, "ab", "cd"), appended("ef"), device(9, "ab", "cdef"), api.OK},
		{"nothing", device(9, "ab", "cd"), appended(""), device(9, "ab", "cd"), api.OK},
		{"up to the capacity", device(6, "ab", "cd"), appended("ef"), device(6, "ab", "cdef"), api.OK},
		{"one too many", device(5, "ab", "cd"), appended("ef"), none, api.ErrFull},
		{"nothing on a full one", device(4, "ab", "cd"), appended(""), device(4, "ab", "cd"), api.OK},
		{"one on a full one", device(4, "ab", "cd"), appended("e"), none, api.ErrFull},
		{"nothing without capacity", device(0, "", ""), appended(""), device(0, "", ""), api.OK},
		{"one without capacity", device(0, "", ""), appended("a"), none, api.ErrFull},
		{"down", downDevice(9, "ab"), appended("c"), none, api.ErrCrash},
		{"down, nothing", downDevice(9, "ab"), appended(""), none, api.ErrCrash},
		{"down and full", downDevice(2, "ab"), appended("c"), none, api.ErrCrash},
		{"bad and full", device(2, "ab", "c"), appended("c"), none, api.ErrBad},
	})
	all := filled(api.MaxDisk)
	d, e := disk.Append(api.Device{Synced: all[:3], Cap: api.MaxDisk}, all[3:])
	want(t, "the greatest", d, e, api.Device{Synced: all[:3], Tail: all[3:], Cap: api.MaxDisk}, api.OK)
	d, e = disk.Append(api.Device{Cap: api.MaxDisk}, make([]byte, api.MaxDisk+1))
	want(t, "more than the greatest", d, e, none, api.ErrFull)
}

func TestSync(t *testing.T) {
	none := api.Device{}
	wantRows(t, []row{
		{"tail", device(9, "ab", "cde"), disk.Sync, device(9, "abcde", ""), api.OK},
		{"tail alone", device(9, "", "cde"), disk.Sync, device(9, "cde", ""), api.OK},
		{"no tail", device(9, "ab", ""), disk.Sync, device(9, "ab", ""), api.OK},
		{"nothing", device(0, "", ""), disk.Sync, device(0, "", ""), api.OK},
		{"full", device(5, "ab", "cde"), disk.Sync, device(5, "abcde", ""), api.OK},
		{"down", downDevice(9, "ab"), disk.Sync, none, api.ErrCrash},
		{"bad and down", api.Device{Tail: []byte("a"), Cap: 3, Down: true}, disk.Sync, none, api.ErrBad},
	})
}

func TestTruncate(t *testing.T) {
	none := api.Device{}
	wantRows(t, []row{
		{"to 0", device(9, "ab", "cde"), truncated(0), device(9, "", ""), api.OK},
		{"into synced", device(9, "ab", "cde"), truncated(1), device(9, "a", ""), api.OK},
		{"to synced", device(9, "ab", "cde"), truncated(2), device(9, "ab", ""), api.OK},
		{"into tail", device(9, "ab", "cde"), truncated(3), device(9, "ab", "c"), api.OK},
		{"to one less", device(9, "ab", "cde"), truncated(4), device(9, "ab", "cd"), api.OK},
		{"to all", device(9, "ab", "cde"), truncated(5), device(9, "ab", "cde"), api.OK},
		{"to more", device(9, "ab", "cde"), truncated(6), none, api.ErrArg},
		{"to the capacity", device(9, "ab", "cde"), truncated(9), none, api.ErrArg},
		{"negative", device(9, "ab", "cde"), truncated(-1), none, api.ErrArg},
		{"nothing", device(9, "", ""), truncated(0), device(9, "", ""), api.OK},
		{"of nothing", device(9, "", ""), truncated(1), none, api.ErrArg},
		{"down", downDevice(9, "ab"), truncated(1), none, api.ErrCrash},
		{"down, more", downDevice(9, "ab"), truncated(3), none, api.ErrCrash},
		{"bad, more", device(2, "ab", "c"), truncated(4), none, api.ErrBad},
	})
	for _, n := range extremes {
		wantRows(t, []row{{"extreme", device(9, "ab", "cde"), truncated(n), none, api.ErrArg}})
	}
}

func TestDrop(t *testing.T) {
	none := api.Device{}
	wantRows(t, []row{
		{"none", device(9, "abc", "de"), dropped(0), device(9, "abc", "de"), api.OK},
		{"one", device(9, "abc", "de"), dropped(1), device(9, "bc", "de"), api.OK},
		{"all", device(9, "abc", "de"), dropped(3), device(9, "", "de"), api.OK},
		{"more than synced", device(9, "abc", "de"), dropped(4), none, api.ErrArg},
		{"as many as there are", device(9, "abc", "de"), dropped(5), none, api.ErrArg},
		{"negative", device(9, "abc", "de"), dropped(-1), none, api.ErrArg},
		{"nothing synced", device(9, "", "de"), dropped(1), none, api.ErrArg},
		{"no tail", device(3, "abc", ""), dropped(2), device(3, "c", ""), api.OK},
		{"down", downDevice(9, "abc"), dropped(1), none, api.ErrCrash},
		{"down, more", downDevice(9, "abc"), dropped(4), none, api.ErrCrash},
		{"bad, more", device(2, "ab", "c"), dropped(4), none, api.ErrBad},
	})
	for _, n := range extremes {
		wantRows(t, []row{{"extreme", device(9, "ab", "cde"), dropped(n), none, api.ErrArg}})
	}
}

// P1.4

func TestCrash(t *testing.T) {
	none := api.Device{}
	wantRows(t, []row{
		{"keeps none", device(9, "ab", "cde"), crashed(0), downDevice(9, "ab"), api.OK},
		{"keeps one", device(9, "ab", "cde"), crashed(1), downDevice(9, "abc"), api.OK},
		{"keeps two", device(9, "ab", "cde"), crashed(2), downDevice(9, "abcd"), api.OK},
		{"keeps all", device(9, "ab", "cde"), crashed(3), downDevice(9, "abcde"), api.OK},
		{"keeps more", device(9, "ab", "cde"), crashed(4), none, api.ErrArg},
		{"keeps as many as there are", device(9, "ab", "cde"), crashed(5), none, api.ErrArg},
		{"negative", device(9, "ab", "cde"), crashed(-1), none, api.ErrArg},
		{"no tail", device(9, "ab", ""), crashed(0), downDevice(9, "ab"), api.OK},
		{"no tail, keeps one", device(9, "ab", ""), crashed(1), none, api.ErrArg},
		{"nothing", device(0, "", ""), crashed(0), downDevice(0, ""), api.OK},
		{"down", downDevice(9, "ab"), crashed(0), none, api.ErrCrash},
		{"down, more", downDevice(9, "ab"), crashed(1), none, api.ErrCrash},
		{"bad", api.Device{Tail: []byte("a"), Cap: 3, Down: true}, crashed(1), none, api.ErrBad},
		{"bad, more", device(2, "ab", "c"), crashed(2), none, api.ErrBad},
	})
	for _, n := range extremes {
		wantRows(t, []row{{"extreme", device(9, "ab", "cde"), crashed(n), none, api.ErrArg}})
	}
}

func TestStart(t *testing.T) {
	none := api.Device{}
	wantRows(t, []row{
		{"down", downDevice(9, "ab"), disk.Start, device(9, "ab", ""), api.OK},
		{"down and full", downDevice(2, "ab"), disk.Start, device(2, "ab", ""), api.OK},
		{"down and empty", downDevice(0, ""), disk.Start, device(0, "", ""), api.OK},
		{"up", device(9, "ab", ""), disk.Start, none, api.ErrState},
		{"up with a tail", device(9, "ab", "c"), disk.Start, none, api.ErrState},
		{"up and empty", none, disk.Start, none, api.ErrState},
		{"bad and down", api.Device{Tail: []byte("a"), Cap: 3, Down: true}, disk.Start, none, api.ErrBad},
		{"bad and up", device(2, "ab", "c"), disk.Start, none, api.ErrBad},
	})
}

func TestChangesCheckTheDeviceFirst(t *testing.T) {
	none := api.Device{}
	for _, d := range badDevices() {
		wantRows(t, []row{
			{"append", d, appended(""), none, api.ErrBad},
			{"append", d, appended("abcdef"), none, api.ErrBad},
			{"sync", d, disk.Sync, none, api.ErrBad},
			{"truncate", d, truncated(0), none, api.ErrBad},
			{"truncate", d, truncated(-1), none, api.ErrBad},
			{"drop", d, dropped(0), none, api.ErrBad},
			{"drop", d, dropped(math.MaxInt), none, api.ErrBad},
			{"crash", d, crashed(0), none, api.ErrBad},
			{"crash", d, crashed(math.MinInt), none, api.ErrBad},
			{"start", d, disk.Start, none, api.ErrBad},
		})
	}
}
