package disk_test

import (
	"bytes"
	"math"
	"testing"

	"siding/api"
)

// extremes are numbers that no device has bytes for, and that overflow when they are added to others.
var extremes = []int{math.MinInt, math.MinInt + 1, -api.MaxDisk - 1, -2, -1, api.MaxDisk + 1, math.MaxInt - 1, math.MaxInt}

func device(capacity int, synced, tail string) api.Device {
	return api.Device{Synced: []byte(synced), Tail: []byte(tail), Cap: capacity}
}

func downDevice(capacity int, synced string) api.Device {
	return api.Device{Synced: []byte(synced), Cap: capacity, Down: true}
}

// badDevices are not valid, each for a reason of its own.
func badDevices() []api.Device {
	return []api.Device{
		{Cap: -1},
		{Cap: math.MinInt},
		{Cap: api.MaxDisk + 1},
		{Cap: math.MaxInt},
		device(0, "a", ""),
		device(0, "", "a"),
		device(3, "abcd", ""),
		device(3, "", "abcd"),
		device(3, "ab", "cd"),
		{Synced: make([]byte, api.MaxDisk), Tail: make([]byte, 1), Cap: api.MaxDisk},
		{Synced: make([]byte, api.MaxDisk+1), Cap: api.MaxDisk + 1},
		{Tail: []byte("a"), Cap: 5, Down: true},
		{Synced: []byte("abcde"), Tail: []byte("a"), Cap: 5, Down: true},
		{Cap: -1, Down: true},
		{Cap: api.MaxDisk + 1, Down: true},
		{Synced: []byte("ab"), Cap: 1, Down: true},
	}
}

func same(a, b api.Device) bool {
	return bytes.Equal(a.Synced, b.Synced) && bytes.Equal(a.Tail, b.Tail) && a.Cap == b.Cap && a.Down == b.Down
}

// want fails unless a call returned this device and this error.
func want(t *testing.T, what string, got api.Device, e api.Errno, d api.Device, we api.Errno) {
	t.Helper()
	if e != we || !same(got, d) {
		t.Errorf("%s: got %+v, %d, want %+v, %d", what, got, e, d, we)
	}
}

func filled(n int) []byte {
	b := make([]byte, n)
	for i := range b {
		b[i] = byte(i*7 + i/256)
	}
	return b
}
