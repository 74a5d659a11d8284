package disk_test

import (
	"slices"
	"testing"

	"siding/api"
	"siding/disk"
)

// P1.5

func op(kind uint8, n int) api.DiskOp { return api.DiskOp{Kind: kind, N: n} }

func appendOp(s string) api.DiskOp { return api.DiskOp{Kind: api.DiskAppend, Data: []byte(s)} }

func wantRun(t *testing.T, what string, d api.Device, l []api.DiskOp, result api.Device, done int, we api.Errno) {
	t.Helper()
	got, n, e := disk.Run(d, l)
	if n != done {
		t.Errorf("%s: done %d, want %d", what, n, done)
	}
	want(t, what, got, e, result, we)
}

func TestRunDoesAllKinds(t *testing.T) {
	d := device(6, "", "")
	l := []api.DiskOp{
		appendOp("abc"), op(api.DiskSync, 0), appendOp("def"), op(api.DiskTruncate, 5), op(api.DiskDrop, 2),
		op(api.DiskCrash, 1), op(api.DiskStart, 0), appendOp(""), appendOp("x"),
	}
	after := []api.Device{
		device(6, "", ""), device(6, "", "abc"), device(6, "abc", ""), device(6, "abc", "def"), device(6, "abc", "de"),
		device(6, "c", "de"), downDevice(6, "cd"), device(6, "cd", ""), device(6, "cd", ""), device(6, "cd", "x"),
	}
	for n := range after {
		wantRun(t, "script", d, l[:n], after[n], n, api.OK)
	}
}

func TestRunStopsAtTheFirstError(t *testing.T) {
	d := device(4, "ab", "c")
	down := downDevice(4, "ab")
	good := appendOp("d")
	for _, c := range []struct {
		what   string
		d      api.Device
		l      []api.DiskOp
		result api.Device
		done   int
		e      api.Errno
	}{
		{"full", d, []api.DiskOp{good, good, good}, device(4, "ab", "cd"), 1, api.ErrFull},
		{"full at once", d, []api.DiskOp{appendOp("de"), good}, d, 0, api.ErrFull},
		{"truncate", d, []api.DiskOp{good, op(api.DiskTruncate, 5)}, device(4, "ab", "cd"), 1, api.ErrArg},
		{"truncate below 0", d, []api.DiskOp{op(api.DiskTruncate, -1)}, d, 0, api.ErrArg},
		{"drop", d, []api.DiskOp{op(api.DiskDrop, 1), op(api.DiskDrop, 2)}, device(4, "b", "c"), 1, api.ErrArg},
		{"crash", d, []api.DiskOp{op(api.DiskCrash, 2)}, d, 0, api.ErrArg},
		{"crash twice", d, []api.DiskOp{op(api.DiskCrash, 1), op(api.DiskCrash, 0)}, downDevice(4, "abc"), 1, api.ErrCrash},
		{"start", d, []api.DiskOp{op(api.DiskStart, 0)}, d, 0, api.ErrState},
		{"append while down", down, []api.DiskOp{appendOp("c")}, down, 0, api.ErrCrash},
		{"sync while down", down, []api.DiskOp{op(api.DiskSync, 0)}, down, 0, api.ErrCrash},
		{"truncate while down", down, []api.DiskOp{op(api.DiskTruncate, 9)}, down, 0, api.ErrCrash},
		{"drop while down", down, []api.DiskOp{op(api.DiskDrop, -1)}, down, 0, api.ErrCrash},
		{"start twice", down, []api.DiskOp{op(api.DiskStart, 0), op(api.DiskStart, 0)}, device(4, "ab", ""), 1, api.ErrState},
		{"the first error counts", d, []api.DiskOp{op(api.DiskStart, 0), op(0, 0), appendOp("de")}, d, 0, api.ErrState},
		{"not valid in the middle", d, []api.DiskOp{good, op(7, 0), good}, device(4, "ab", "cd"), 1, api.ErrArg},
	} {
		wantRun(t, c.what, c.d, c.l, c.result, c.done, c.e)
	}
}

func TestRunRejectsOtherOperations(t *testing.T) {
	x := []byte("x")
	bad := []api.DiskOp{
		{Kind: 0}, {Kind: 7}, {Kind: 8}, {Kind: 128}, {Kind: 255}, {Kind: 0, Data: x}, {Kind: 7, N: 1},
		{Kind: api.DiskAppend, Data: x, N: 1}, {Kind: api.DiskAppend, N: 1}, {Kind: api.DiskAppend, N: -1},
		{Kind: api.DiskAppend, Data: make([]byte, 100), N: 1},
		{Kind: api.DiskSync, Data: x}, {Kind: api.DiskSync, N: 1}, {Kind: api.DiskSync, N: -1},
		{Kind: api.DiskTruncate, Data: x}, {Kind: api.DiskDrop, Data: x}, {Kind: api.DiskCrash, Data: x},
		{Kind: api.DiskTruncate, Data: x, N: 1}, {Kind: api.DiskDrop, Data: x, N: 1}, {Kind: api.DiskCrash, Data: x, N: 1},
		{Kind: api.DiskStart, Data: x}, {Kind: api.DiskStart, N: 1}, {Kind: api.DiskStart, N: -1},
	}
	for _, o := range bad {
		for _, d := range []api.Device{device(9, "ab", "cd"), device(4, "ab", "cd"), downDevice(9, "ab")} {
			wantRun(t, "not valid", d, []api.DiskOp{o}, d, 0, api.ErrArg)
		}
	}
}

func TestRunTakesEmptyDataAsNone(t *testing.T) {
	empty := []byte{}
	d := device(9, "ab", "c")
	wantRun(t, "sync", d, []api.DiskOp{{Kind: api.DiskSync, Data: empty}}, device(9, "abc", ""), 1, api.OK)
	wantRun(t, "truncate", d, []api.DiskOp{{Kind: api.DiskTruncate, Data: empty, N: 1}}, device(9, "a", ""), 1, api.OK)
	wantRun(t, "drop", d, []api.DiskOp{{Kind: api.DiskDrop, Data: empty, N: 1}}, device(9, "b", "c"), 1, api.OK)
	wantRun(t, "crash", d, []api.DiskOp{{Kind: api.DiskCrash, Data: empty, N: 1}}, downDevice(9, "abc"), 1, api.OK)
	wantRun(t, "start", downDevice(9, "a"), []api.DiskOp{{Kind: api.DiskStart, Data: empty}}, device(9, "a", ""), 1, api.OK)
	wantRun(t, "append", d, []api.DiskOp{{Kind: api.DiskAppend}}, d, 1, api.OK)
}

func TestRunOfNothing(t *testing.T) {
	for _, d := range []api.Device{{}, device(9, "ab", "cd"), downDevice(4, "ab")} {
		wantRun(t, "nil", d, nil, d, 0, api.OK)
		wantRun(t, "empty", d, []api.DiskOp{}, d, 0, api.OK)
	}
}

func TestRunLimits(t *testing.T) {
	many := slices.Repeat([]api.DiskOp{appendOp("a")}, api.MaxScript+1)
	all := string(slices.Repeat([]byte("a"), api.MaxScript))
	d := device(api.MaxDisk, "", "")
	wantRun(t, "199", d, many[:199], device(api.MaxDisk, "", all[:199]), 199, api.OK)
	wantRun(t, "200", d, many[:200], device(api.MaxDisk, "", all), 200, api.OK)
	wantRun(t, "201", d, many, api.Device{}, 0, api.ErrMany)
	wantRun(t, "201 on a device that is down", downDevice(5, "a"), many, api.Device{}, 0, api.ErrMany)
	wantRun(t, "201 that are not valid", d, make([]api.DiskOp, 201), api.Device{}, 0, api.ErrMany)
	wantRun(t, "200 that are not valid", d, make([]api.DiskOp, 200), d, 0, api.ErrArg)
	for _, bad := range badDevices() {
		wantRun(t, "201 on a bad device", bad, many, api.Device{}, 0, api.ErrBad)
		wantRun(t, "none on a bad device", bad, nil, api.Device{}, 0, api.ErrBad)
		wantRun(t, "not valid on a bad device", bad, make([]api.DiskOp, 1), api.Device{}, 0, api.ErrBad)
	}
	wantRun(t, "the last one has an error", device(199, "", ""), many[:200], device(199, "", all[:199]), 199, api.ErrFull)
}

func TestRunOnAFullDevice(t *testing.T) {
	l := slices.Repeat([]api.DiskOp{{Kind: api.DiskAppend, Data: filled(100)}}, api.MaxScript)
	all := slices.Repeat(filled(100), api.MaxScript)
	wantRun(t, "full", device(api.MaxDisk, "", ""), l, api.Device{Tail: all, Cap: api.MaxDisk}, 200, api.OK)
	wantRun(t, "too much", device(api.MaxDisk-1, "", ""), l, api.Device{Tail: all[:19900], Cap: api.MaxDisk - 1}, 199, api.ErrFull)
}
