// Package disk is layer 1, a device as plain data: see shared/doc/01-disk.md.
package disk

import (
	"slices"

	"siding/api"
)

// Check returns ErrBad unless d is a valid device.
func Check(d api.Device) api.Errno {
	if d.Cap < 0 || d.Cap > api.MaxDisk || bytesOf(d) > d.Cap {
		return api.ErrBad
	}
	if d.Down && len(d.Tail) > 0 {
		return api.ErrBad
	}
	return api.OK
}

// New returns a device without bytes.
func New(capacity int) (api.Device, api.Errno) {
	if capacity < 0 || capacity > api.MaxDisk {
		return api.Device{}, api.ErrArg
	}
	return api.Device{Cap: capacity}, api.OK
}

// Size returns the number of bytes of a device, which may be down.
func Size(d api.Device) (int, api.Errno) {
	if e := Check(d); e != api.OK {
		return 0, e
	}
	return bytesOf(d), api.OK
}

// Read returns n bytes from the byte at on.
func Read(d api.Device, at, n int) ([]byte, api.Errno) {
	if e := checkUp(d); e != api.OK {
		return nil, e
	}
	// n is compared with a difference, because at+n may overflow.
	if at < 0 || n < 0 || n > bytesOf(d)-at {
		return nil, api.ErrArg
	}
	return slices.Concat(d.Synced, d.Tail)[at : at+n], api.OK
}

// Append puts b behind the tail.
func Append(d api.Device, b []byte) (api.Device, api.Errno) {
	if e := checkUp(d); e != api.OK {
		return api.Device{}, e
	}
	if len(b) > d.Cap-bytesOf(d) {
		return api.Device{}, api.ErrFull
	}
	return with(d, slices.Concat(d.Synced), slices.Concat(d.Tail, b)), api.OK
}

// Sync moves the tail to what is synced.
func Sync(d api.Device) (api.Device, api.Errno) {
	if e := checkUp(d); e != api.OK {
		return api.Device{}, e
	}
	return with(d, slices.Concat(d.Synced, d.Tail), nil), api.OK
}

// Truncate keeps the first n bytes.
func Truncate(d api.Device, n int) (api.Device, api.Errno) {
	if e := checkUp(d); e != api.OK {
		return api.Device{}, e
	}
	if n < 0 || n > bytesOf(d) {
		return api.Device{}, api.ErrArg
	}
	synced := min(n, len(d.Synced))
	return with(d, slices.Concat(d.Synced[:synced]), slices.Concat(d.Tail[:n-synced])), api.OK
}

// Drop takes the first n synced bytes away.
func Drop(d api.Device, n int) (api.Device, api.Errno) {
	if e := checkUp(d); e != api.OK {
		return api.Device{}, e
	}
	if n < 0 || n > len(d.Synced) {
		return api.Device{}, api.ErrArg
	}
	return with(d, slices.Concat(d.Synced[n:]), slices.Concat(d.Tail)), api.OK
}

// Crash takes a device down; the first keep bytes of its tail survive.
func Crash(d api.Device, keep int) (api.Device, api.Errno) {
	if e := checkUp(d); e != api.OK {
		return api.Device{}, e
	}
	if keep < 0 || keep > len(d.Tail) {
		return api.Device{}, api.ErrArg
	}
	d = with(d, slices.Concat(d.Synced, d.Tail[:keep]), nil)
	d.Down = true
	return d, api.OK
}

// Start brings a device up that is down.
func Start(d api.Device) (api.Device, api.Errno) {
	if e := Check(d); e != api.OK {
		return api.Device{}, e
	}
	if !d.Down {
		return api.Device{}, api.ErrState
	}
	d = with(d, slices.Concat(d.Synced), nil)
	d.Down = false
	return d, api.OK
}

// Run does operations one after the other, up to the first one that has an error.
func Run(d api.Device, l []api.DiskOp) (api.Device, int, api.Errno) {
	if e := Check(d); e != api.OK {
		return api.Device{}, 0, e
	}
	if len(l) > api.MaxScript {
		return api.Device{}, 0, api.ErrMany
	}
	d = with(d, slices.Concat(d.Synced), slices.Concat(d.Tail))
	for i, o := range l {
		next, e := do(d, o)
		if e != api.OK {
			return d, i, e
		}
		d = next
	}
	return d, len(l), api.OK
}

func do(d api.Device, o api.DiskOp) (api.Device, api.Errno) {
	if !isOp(o) {
		return api.Device{}, api.ErrArg
	}
	switch o.Kind {
	case api.DiskAppend:
		return Append(d, o.Data)
	case api.DiskSync:
		return Sync(d)
	case api.DiskTruncate:
		return Truncate(d, o.N)
	case api.DiskDrop:
		return Drop(d, o.N)
	case api.DiskCrash:
		return Crash(d, o.N)
	default:
		return Start(d)
	}
}

func isOp(o api.DiskOp) bool {
	switch o.Kind {
	case api.DiskAppend:
		return o.N == 0
	case api.DiskTruncate, api.DiskDrop, api.DiskCrash:
		return len(o.Data) == 0
	case api.DiskSync, api.DiskStart:
		return len(o.Data) == 0 && o.N == 0
	}
	return false
}

// checkUp returns the errors that all operations of a running device have in common.
func checkUp(d api.Device) api.Errno {
	if e := Check(d); e != api.OK {
		return e
	}
	if d.Down {
		return api.ErrCrash
	}
	return api.OK
}

func bytesOf(d api.Device) int { return len(d.Synced) + len(d.Tail) }

// with returns d with other bytes. It keeps the slices it is given, so callers pass copies: results share no memory with arguments.
func with(d api.Device, synced, tail []byte) api.Device {
	d.Synced, d.Tail = synced, tail
	return d
}
