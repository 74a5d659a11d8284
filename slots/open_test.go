package slots_test

import (
	"fmt"
	"slices"
	"testing"

	"siding/api"
	"siding/slots"
)

// P5.1: Open

// allNexts are numbers of all kinds; opening takes no notice of them.
var allNexts = append([]int{0, 1, 2, 3, 1000, api.MaxNum, api.MaxNum + 1}, extremes...)

func TestOpenValidSlots(t *testing.T) {
	for what, s := range validSlots() {
		for _, next := range allNexts {
			s.Next = next
			wantOpen(t, fmt.Sprint(what, next), s, opened(s))
		}
	}
}

// wantOpen fails unless opening gives these slots, once and again.
func wantOpen(t *testing.T, what string, s, result api.Slots) {
	t.Helper()
	got, e := slots.Open(s)
	want(t, what, got, e, result, api.OK)
	if e := slots.Check(got); e != api.OK {
		t.Error(what, e)
	}
	again, e := slots.Open(got)
	want(t, what+", again", again, e, result, api.OK)
	num, data, e := newest(result)
	wantLoad(t, what, got, num, data, e)
}

func TestOpenSetsNext(t *testing.T) {
	for _, c := range []struct {
		what      string
		zero, one []byte
		next      int
	}{
		{"none", nil, nil, 1},
		{"an odd one", nil, encoded(1, "a"), 2},
		{"an even one", encoded(2, "bc"), nil, 3},
		{"the number 0", encoded(0, ""), nil, 1},
		{"the even one is newer", encoded(2, "bc"), encoded(1, "a"), 3},
		{"the odd one is newer", encoded(2, "bc"), encoded(3, "d"), 4},
		{"far apart", encoded(2, "bc"), encoded(30003, "d"), 30004},
		{"the greatest number", encoded(api.MaxNum, "x"), encoded(api.MaxNum-1, "y"), api.MaxNum + 1},
		{"the greatest number alone", encoded(api.MaxNum, "x"), nil, api.MaxNum + 1},
		{"the newer one is torn", encoded(4, "x")[:12], encoded(3, "y"), 4},
		{"the older one is torn", encoded(4, "x"), encoded(3, "y")[:12], 5},
		{"both are torn", encoded(4, "x")[:12], encoded(3, "y")[:12], 1},
		{"the newer one is changed", encoded(4, "x"), changed(encoded(5, "y"), 12), 5},
		{"wrong slots", encoded(5, "x"), encoded(4, "y"), 1},
		{"one wrong slot", encoded(5, "x"), encoded(3, "y"), 4},
		{"more records behind", slices.Concat(encoded(2, "bc"), encoded(3, ""), encoded(4, "")), nil, 3},
		{"foreign", []byte(text(api.MaxDisk)), []byte("foreign"), 1},
	} {
		for _, next := range allNexts {
			s := with(next, c.zero, c.one)
			wantOpen(t, c.what, s, with(c.next, c.zero, c.one))
			wantOpen(t, c.what+", down", crashed(s), with(c.next, c.zero, c.one))
		}
	}
}

func TestOpenWithoutACheckpoint(t *testing.T) {
	for zero, none := range noCheckpoints() {
		for one, other := range noCheckpoints() {
			s := with(7, none[0], other[1])
			wantOpen(t, zero+", "+one, s, with(1, none[0], other[1]))
			wantOpen(t, zero+", "+one+", down", crashed(s), with(1, none[0], other[1]))
		}
	}
}

// Each device is started if it is down, and only then.
func TestOpenWithOneDeviceDown(t *testing.T) {
	zero, one := encoded(2, "bc"), encoded(3, "d")
	for slot := range 2 {
		s := with(9, zero, one)
		s.Dev[slot].Down = true
		wantOpen(t, "two", s, with(4, zero, one))
		s = with(9, nil, nil)
		s.Dev[slot].Down = true
		wantOpen(t, "none", s, with(1, nil, nil))
		s = with(-1, zero, encoded(3, "d")[:12])
		s.Dev[slot].Down = true
		wantOpen(t, "torn", s, with(3, zero, one[:12]))
	}
}

// What is not synced is synced, and counts as the other bytes do.
func TestOpenWithTails(t *testing.T) {
	zero, one := encoded(2, "bc"), encoded(3, "d")
	split := func(b []byte, at int) api.Device {
		return api.Device{Synced: b[:at:at], Tail: b[at:], Cap: api.MaxDisk}
	}
	for i := range len(zero) + 1 {
		for k := range len(one) + 1 {
			s := api.Slots{Dev: [2]api.Device{split(zero, i), split(one, k)}, Next: 7}
			wantOpen(t, fmt.Sprint(i, k), s, with(4, zero, one))
			s.Dev[0] = down(api.MaxDisk, zero)
			wantOpen(t, fmt.Sprint("down ", k), s, with(4, zero, one))
			s.Dev[0] = split(zero, i)
			s.Dev[1] = split(one[:len(one)-1], k/2)
			wantOpen(t, fmt.Sprint(i, " torn"), s, with(3, zero, one[:len(one)-1]))
			s.Dev[0] = split(one, k)
			s.Dev[1] = down(api.MaxDisk, nil)
			wantOpen(t, fmt.Sprint(k, " in the wrong slot"), s, with(1, one, nil))
		}
	}
}

func TestOpenKeepsTheCapacities(t *testing.T) {
	zero, one := encoded(2, "bc"), encoded(3, "d")
	s := api.Slots{Dev: [2]api.Device{{Tail: zero, Cap: 14}, down(777, one)}}
	wantOpen(t, "full", s, api.Slots{Dev: [2]api.Device{up(14, zero), up(777, one)}, Next: 4})
	s = api.Slots{Dev: [2]api.Device{down(0, nil), up(api.MaxDisk, []byte(text(api.MaxDisk)))}}
	wantOpen(t, "none", s, api.Slots{Dev: [2]api.Device{up(0, nil), s.Dev[1]}, Next: 1})
}

func TestOpenErrors(t *testing.T) {
	b := encoded(2, "bc")
	for what, d := range map[string]api.Device{
		"more than the capacity":           up(13, b),
		"more than the capacity, and down": down(13, b),
		"a tail above the capacity":        {Synced: b, Tail: []byte{0}, Cap: 14},
		"down with a tail":                 {Synced: b, Tail: []byte{0}, Cap: 100, Down: true},
		"down with only a tail":            {Tail: b, Cap: 100, Down: true},
		"a capacity that is negative":      up(-1, nil),
		"a capacity above all":             up(api.MaxDisk+1, nil),
		"more than there can be":           up(api.MaxDisk, make([]byte, api.MaxDisk+1)),
	} {
		for _, next := range allNexts {
			for _, other := range []api.Device{{}, up(100, b), down(100, b), {Tail: b, Cap: 14}, d} {
				got, e := slots.Open(api.Slots{Dev: [2]api.Device{d, other}, Next: next})
				want(t, what, got, e, api.Slots{}, api.ErrBad)
				got, e = slots.Open(api.Slots{Dev: [2]api.Device{other, d}, Next: next})
				want(t, what, got, e, api.Slots{}, api.ErrBad)
			}
		}
	}
}

// The zero value has valid devices, so it opens.
func TestOpenTheZeroValue(t *testing.T) {
	wantOpen(t, "zero", api.Slots{}, empty(0, 1))
}
