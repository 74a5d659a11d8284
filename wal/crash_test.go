package wal_test

import (
	"fmt"
	"slices"
	"testing"

	"siding/api"
	"siding/wal"
)

// P4.5

func TestCrash(t *testing.T) {
	data := []string{"a", "", "bc"}
	b := row(5, data...)
	for synced := range len(b) + 1 {
		l := with(synced, 5, data...)
		for keep := range len(b) - synced + 1 {
			d, e := wal.Crash(l, keep)
			wantDevice(t, fmt.Sprint(synced, " synced, keeps ", keep), d, e, down(api.MaxDisk, b[:synced+keep]), api.OK)
		}
		for _, keep := range append([]int{-1, len(b) - synced + 1, len(b) + 1}, extremes...) {
			d, e := wal.Crash(l, keep)
			wantDevice(t, fmt.Sprint(synced, " synced, keeps ", keep), d, e, api.Device{}, api.ErrArg)
		}
	}
}

func TestCrashOfAllLogs(t *testing.T) {
	for what, l := range validLogs() {
		for _, keep := range []int{0, len(l.Dev.Tail) / 2, len(l.Dev.Tail)} {
			d, e := wal.Crash(l, keep)
			wantDevice(t, what, d, e, down(l.Dev.Cap, slices.Concat(l.Dev.Synced, l.Dev.Tail[:keep])), api.OK)
		}
		d, e := wal.Crash(l, len(l.Dev.Tail)+1)
		wantDevice(t, what, d, e, api.Device{}, api.ErrArg)
	}
}
