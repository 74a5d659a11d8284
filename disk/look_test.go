package disk_test

import (
	"bytes"
	"math"
	"testing"

	"siding/api"
	"siding/disk"
)

// P1.1

func TestCheckAcceptsValidDevices(t *testing.T) {
	for i, d := range []api.Device{
		{},
		{Cap: 1},
		{Cap: api.MaxDisk},
		{Cap: 0, Down: true},
		{Cap: api.MaxDisk, Down: true},
		device(1, "a", ""),
		device(1, "", "a"),
		device(4, "ab", "c"),
		device(4, "ab", "cd"),
		downDevice(4, "abcd"),
		downDevice(4, "abc"),
		{Synced: []byte{}, Tail: []byte{}, Cap: 3, Down: true},
		{Synced: make([]byte, api.MaxDisk), Cap: api.MaxDisk},
		{Tail: make([]byte, api.MaxDisk), Cap: api.MaxDisk},
		{Synced: make([]byte, api.MaxDisk/2), Tail: make([]byte, api.MaxDisk/2), Cap: api.MaxDisk},
		{Synced: make([]byte, api.MaxDisk), Cap: api.MaxDisk, Down: true},
	} {
		if e := disk.Check(d); e != api.OK {
			t.Error(i, e)
		}
	}
}

func TestCheckRejectsOtherDevices(t *testing.T) {
	for i, d := range badDevices() {
		if e := disk.Check(d); e != api.ErrBad {
			t.Error(i, e)
		}
	}
}

func TestNew(t *testing.T) {
	for _, n := range []int{0, 1, 8, api.MaxDisk - 1, api.MaxDisk} {
		d, e := disk.New(n)
		want(t, "New", d, e, api.Device{Cap: n}, api.OK)
	}
	for _, n := range extremes {
		d, e := disk.New(n)
		want(t, "New", d, e, api.Device{}, api.ErrArg)
	}
}

func TestSize(t *testing.T) {
	for i, c := range []struct {
		d api.Device
		n int
	}{
		{api.Device{}, 0},
		{api.Device{Cap: 7}, 0},
		{device(9, "ab", ""), 2},
		{device(9, "", "abc"), 3},
		{device(9, "ab", "cde"), 5},
		{device(5, "ab", "cde"), 5},
		{downDevice(9, "abcd"), 4},
		{downDevice(9, ""), 0},
		{api.Device{Synced: make([]byte, 12000), Tail: make([]byte, 8000), Cap: api.MaxDisk}, api.MaxDisk},
	} {
		if n, e := disk.Size(c.d); n != c.n || e != api.OK {
			t.Error(i, n, e)
		}
	}
	for i, d := range badDevices() {
		if n, e := disk.Size(d); n != 0 || e != api.ErrBad {
			t.Error(i, n, e)
		}
	}
}

// P1.2

func TestReadEveryRange(t *testing.T) {
	for _, d := range []api.Device{device(10, "ab", "cde"), device(5, "abcde", ""), device(5, "", "abcde"), {}, {Cap: 3}} {
		all := string(d.Synced) + string(d.Tail)
		for at := -2; at <= len(all)+2; at++ {
			for n := -2; n <= len(all)+2; n++ {
				b, e := disk.Read(d, at, n)
				if at < 0 || n < 0 || at+n > len(all) {
					if b != nil || e != api.ErrArg {
						t.Error(all, at, n, b, e)
					}
				} else if string(b) != all[at:at+n] || e != api.OK {
					t.Error(all, at, n, b, e)
				}
			}
		}
	}
}

func TestReadFullDevice(t *testing.T) {
	all := filled(api.MaxDisk)
	d := api.Device{Synced: all[:11000], Tail: all[11000:], Cap: api.MaxDisk}
	for _, r := range [][2]int{{0, api.MaxDisk}, {10990, 20}, {11000, 9000}, {10999, 1}, {api.MaxDisk, 0}} {
		b, e := disk.Read(d, r[0], r[1])
		if e != api.OK || !bytes.Equal(b, all[r[0]:r[0]+r[1]]) {
			t.Error(r, len(b), e)
		}
	}
	if b, e := disk.Read(d, 1, api.MaxDisk); len(b) != 0 || e != api.ErrArg {
		t.Error(len(b), e)
	}
}

func TestReadErrors(t *testing.T) {
	for i, c := range []struct {
		d     api.Device
		at, n int
		e     api.Errno
	}{
		{device(5, "ab", "c"), math.MaxInt, 1, api.ErrArg},
		{device(5, "ab", "c"), 1, math.MaxInt, api.ErrArg},
		{device(5, "ab", "c"), math.MaxInt, math.MaxInt, api.ErrArg},
		{device(5, "ab", "c"), math.MinInt, 0, api.ErrArg},
		{device(5, "ab", "c"), 0, math.MinInt, api.ErrArg},
		{device(5, "ab", "c"), math.MinInt, math.MinInt, api.ErrArg},
		{downDevice(5, "abc"), 0, 1, api.ErrCrash},
		{downDevice(5, "abc"), 0, 0, api.ErrCrash},
		{downDevice(5, "abc"), -1, 1, api.ErrCrash},
		{downDevice(5, "abc"), 0, 4, api.ErrCrash},
		{device(2, "ab", "c"), 0, 1, api.ErrBad},
		{device(2, "ab", "c"), -1, 1, api.ErrBad},
		{api.Device{Tail: []byte("a"), Cap: 2, Down: true}, 0, 1, api.ErrBad},
	} {
		if b, e := disk.Read(c.d, c.at, c.n); b != nil || e != c.e {
			t.Error(i, b, e)
		}
	}
}

func TestExamplesOfTheChapter(t *testing.T) {
	d, _ := disk.New(10)
	d, _ = disk.Append(d, []byte("ab"))
	d, _ = disk.Sync(d)
	d, e := disk.Append(d, []byte("cde"))
	want(t, "append", d, e, device(10, "ab", "cde"), api.OK)
	if b, e := disk.Read(d, 1, 2); string(b) != "bc" || e != api.OK {
		t.Error(b, e)
	}
	down, e := disk.Crash(d, 1)
	want(t, "crash", down, e, downDevice(10, "abc"), api.OK)
	up, e := disk.Start(down)
	want(t, "start", up, e, device(10, "abc", ""), api.OK)
	cut, e := disk.Truncate(up, 1)
	want(t, "truncate", cut, e, device(10, "a", ""), api.OK)
	full, e := disk.Append(d, []byte("123456"))
	want(t, "full", full, e, api.Device{}, api.ErrFull)
	dropped, e := disk.Drop(d, 1)
	want(t, "drop", dropped, e, device(10, "b", "cde"), api.OK)
}

func TestExampleOfTheWhole(t *testing.T) {
	d, e := disk.Crash(api.Device{Synced: []byte{1, 2}, Tail: []byte{3, 4}, Cap: 4}, 1)
	want(t, "crash", d, e, api.Device{Synced: []byte{1, 2, 3}, Cap: 4, Down: true}, api.OK)
}
