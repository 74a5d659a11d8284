package disk_test

import (
	"bytes"
	"fmt"
	"math"
	"testing"

	"siding/api"
	"siding/disk"
)

// calls are all functions with a device, each with arguments that it takes.
func calls() map[string]func(d api.Device, data []byte) []api.Device {
	of := func(d api.Device, e api.Errno) []api.Device { return []api.Device{d} }
	return map[string]func(d api.Device, data []byte) []api.Device{
		"check":  func(d api.Device, data []byte) []api.Device { disk.Check(d); return nil },
		"size":   func(d api.Device, data []byte) []api.Device { disk.Size(d); return nil },
		"append": func(d api.Device, data []byte) []api.Device { return of(disk.Append(d, data)) },
		"append nothing": func(d api.Device, data []byte) []api.Device {
			return of(disk.Append(d, data[:0]))
		},
		"sync":                   func(d api.Device, data []byte) []api.Device { return of(disk.Sync(d)) },
		"truncate to synced":     func(d api.Device, data []byte) []api.Device { return of(disk.Truncate(d, 4)) },
		"truncate to 1":          func(d api.Device, data []byte) []api.Device { return of(disk.Truncate(d, 1)) },
		"truncate into the tail": func(d api.Device, data []byte) []api.Device { return of(disk.Truncate(d, 6)) },
		"truncate to all":        func(d api.Device, data []byte) []api.Device { return of(disk.Truncate(d, 7)) },
		"drop none":              func(d api.Device, data []byte) []api.Device { return of(disk.Drop(d, 0)) },
		"drop":                   func(d api.Device, data []byte) []api.Device { return of(disk.Drop(d, 2)) },
		"crash":                  func(d api.Device, data []byte) []api.Device { return of(disk.Crash(d, 1)) },
		"crash that keeps none":  func(d api.Device, data []byte) []api.Device { return of(disk.Crash(d, 0)) },
		"start":                  func(d api.Device, data []byte) []api.Device { return of(disk.Start(d)) },
		"read": func(d api.Device, data []byte) []api.Device {
			b, _ := disk.Read(d, 0, 3)
			c, _ := disk.Read(d, 5, 2)
			return []api.Device{{Synced: b, Tail: c}}
		},
		"run nothing": func(d api.Device, data []byte) []api.Device { return ran(d, nil) },
		"run": func(d api.Device, data []byte) []api.Device {
			return ran(d, []api.DiskOp{{Kind: api.DiskAppend, Data: data}})
		},
		"run all": func(d api.Device, data []byte) []api.Device {
			return ran(d, []api.DiskOp{{Kind: api.DiskAppend, Data: data}, op(2, 0), op(3, 6), op(4, 1), op(5, 0), op(6, 0)})
		},
		"run with an error": func(d api.Device, data []byte) []api.Device {
			return ran(d, []api.DiskOp{{Kind: api.DiskAppend, Data: data}, op(9, 0)})
		},
		"run with an error at once": func(d api.Device, data []byte) []api.Device { return ran(d, []api.DiskOp{op(9, 0)}) },
	}
}

func ran(d api.Device, l []api.DiskOp) []api.Device {
	d, _, _ = disk.Run(d, l)
	return []api.Device{d}
}

// memory is where arguments lie: each slice has bytes of others behind its length.
type memory struct{ all []byte }

func newMemory() memory { return memory{filled(40)} }

func (m memory) device(down bool) api.Device {
	if down {
		return api.Device{Synced: m.all[:4], Cap: 30, Down: true}
	}
	return api.Device{Synced: m.all[:4], Tail: m.all[4:7], Cap: 30}
}

func (m memory) data() []byte { return m.all[20:23] }

// whole is a slice with the memory up to its capacity.
func whole(b []byte) []byte { return b[:cap(b)] }

func scribble(b []byte) {
	for i := range whole(b) {
		whole(b)[i] ^= 0xff
	}
}

// R2

func TestArgumentsStay(t *testing.T) {
	for name, call := range calls() {
		for _, down := range []bool{false, true} {
			m := newMemory()
			call(m.device(down), m.data())
			if !bytes.Equal(m.all, newMemory().all) {
				t.Error(name, down)
			}
		}
	}
}

func TestScriptsStay(t *testing.T) {
	m := newMemory()
	l := []api.DiskOp{{Kind: api.DiskAppend, Data: m.data()}, op(2, 0), op(5, 0), op(6, 0), op(1, 7)}
	before := fmt.Sprint(l[:cap(l)])
	disk.Run(m.device(false), l[:3])
	if fmt.Sprint(l[:cap(l)]) != before {
		t.Error(l)
	}
}

func TestResultsShareNoMemory(t *testing.T) {
	for name, call := range calls() {
		for _, down := range []bool{false, true} {
			m := newMemory()
			first, second := call(m.device(down), m.data()), call(m.device(down), m.data())
			for i := range first {
				synced, tail := string(first[i].Synced), string(first[i].Tail)
				scribble(first[i].Synced)
				if string(first[i].Tail) != tail {
					t.Error(name, down, "the parts of a result share memory")
				}
				scribble(first[i].Tail)
				if string(second[i].Synced) != synced || string(second[i].Tail) != tail {
					t.Error(name, down, "results share memory")
				}
				if !bytes.Equal(m.all, newMemory().all) {
					t.Error(name, down, "a result shares memory with an argument")
				}
			}
		}
	}
}

func TestResultsStayWhenArgumentsChange(t *testing.T) {
	for name, call := range calls() {
		for _, down := range []bool{false, true} {
			m, other := newMemory(), newMemory()
			got, kept := call(m.device(down), m.data()), call(other.device(down), other.data())
			scribble(m.all)
			for i := range got {
				if !same(got[i], kept[i]) {
					t.Error(name, down)
				}
			}
		}
	}
}

// R3

func TestNilAndEmptyBytesAreEqual(t *testing.T) {
	for name, call := range calls() {
		if name == "read" {
			continue
		}
		for _, down := range []bool{false, true} {
			a := call(api.Device{Cap: 9, Down: down}, nil)
			b := call(api.Device{Synced: []byte{}, Tail: make([]byte, 0, 8), Cap: 9, Down: down}, []byte{})
			for i := range a {
				if !same(a[i], b[i]) {
					t.Error(name, down)
				}
			}
		}
	}
}

// R7

func TestNoCallPanics(t *testing.T) {
	devices := append(badDevices(), api.Device{}, device(9, "ab", "cde"), downDevice(9, "ab"))
	numbers := append([]int{0, 1, 2, 5, math.MaxInt32, math.MinInt32}, extremes...)
	for _, d := range devices {
		disk.Check(d)
		disk.Size(d)
		disk.Append(d, nil)
		disk.Append(d, filled(api.MaxDisk+1))
		disk.Sync(d)
		disk.Start(d)
		for _, n := range numbers {
			disk.New(n)
			disk.Truncate(d, n)
			disk.Drop(d, n)
			disk.Crash(d, n)
			for _, k := range numbers {
				disk.Read(d, n, k)
			}
			for kind := range uint8(9) {
				disk.Run(d, []api.DiskOp{op(kind, n)})
			}
		}
	}
}
