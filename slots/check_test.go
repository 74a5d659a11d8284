package slots_test

import (
	"testing"

	"siding/api"
	"siding/slots"
)

// P5.1: New and Check

func TestNew(t *testing.T) {
	for _, capacity := range []int{0, 1, 12, 1000, api.MaxDisk - 1, api.MaxDisk} {
		s, e := slots.New(capacity)
		want(t, "new", s, e, empty(capacity, 1), api.OK)
		if e := slots.Check(s); e != api.OK {
			t.Error(capacity, e)
		}
		wantLoad(t, "new", s, 0, "", api.ErrNone)
	}
	for _, capacity := range append([]int{api.MaxDisk + 1, api.MaxDisk + 2}, extremes...) {
		s, e := slots.New(capacity)
		want(t, "new", s, e, api.Slots{}, api.ErrArg)
	}
}

// validSlots are slots of all kinds, by what they are.
func validSlots() map[string]api.Slots {
	return map[string]api.Slots{
		"none":                        empty(100, 1),
		"none, at 2":                  empty(100, 2),
		"none, at the last number":    empty(100, api.MaxNum),
		"none, behind all numbers":    empty(100, api.MaxNum+1),
		"none, without capacity":      empty(0, 1),
		"none, of other capacities":   {Dev: [2]api.Device{up(10, nil), up(api.MaxDisk, nil)}, Next: 1},
		"one":                         with(2, nil, encoded(1, "a")),
		"two":                         with(3, encoded(2, "bc"), encoded(1, "a")),
		"three":                       with(4, encoded(2, "bc"), encoded(3, "d")),
		"without bytes":               with(4, encoded(2, ""), encoded(3, "")),
		"the greatest":                with(4, encoded(2, text(api.MaxData)), encoded(3, text(api.MaxData))),
		"only the number 0":           with(1, encoded(0, "zero"), nil),
		"the numbers 0 and 1":         with(2, encoded(0, "zero"), encoded(1, "one")),
		"numbers that are far apart":  with(1001, encoded(1000, "x"), encoded(7, "y")),
		"only one that is even":       with(7, encoded(6, "x"), nil),
		"up to the last number":       with(api.MaxNum+1, encoded(api.MaxNum, "x"), encoded(api.MaxNum-1, "y")),
		"the last number alone":       with(api.MaxNum+1, encoded(api.MaxNum, "x"), nil),
		"full":                        {Dev: [2]api.Device{up(14, encoded(2, "bc")), up(13, encoded(1, "a"))}, Next: 3},
		"next less than the newest":   with(1, encoded(4, "x"), encoded(3, "y")),
		"next is the newest":          with(4, encoded(4, "x"), encoded(3, "y")),
		"next greater than behind it": with(9, encoded(4, "x"), encoded(3, "y")),
		"the newest is torn":          with(4, encoded(4, "x")[:12], encoded(3, "y")),
		"both are torn":               with(5, encoded(4, "x")[:12], encoded(3, "y")[:3]),
		"a wrong slot":                with(3, encoded(1, "a"), encoded(2, "bc")),
		"foreign bytes":               with(3, []byte("foreign"), make([]byte, api.MaxDisk)),
	}
}

// badDevices are devices that slots must not have, by the reason.
func badDevices() map[string]api.Device {
	b := encoded(2, "bc")
	return map[string]api.Device{
		"down":                        down(100, b),
		"down without bytes":          down(100, nil),
		"a tail":                      {Synced: b, Tail: []byte{0}, Cap: 100},
		"only a tail":                 {Tail: b, Cap: 100},
		"down with a tail":            {Synced: b, Tail: []byte{0}, Cap: 100, Down: true},
		"more than the capacity":      up(13, b),
		"a tail above the capacity":   {Synced: b, Tail: []byte{0}, Cap: 14},
		"a capacity that is negative": up(-1, nil),
		"a capacity above all":        up(api.MaxDisk+1, nil),
		"the least capacity":          up(extremes[0], b),
		"the greatest capacity":       up(extremes[len(extremes)-1], b),
	}
}

// badSlots are slots that are not valid, by the reason.
func badSlots() map[string]api.Slots {
	bad := map[string]api.Slots{
		"the zero value":       {},
		"next is 0":            with(0, encoded(2, "bc"), encoded(1, "a")),
		"next is greater":      with(api.MaxNum+2, encoded(2, "bc"), encoded(1, "a")),
		"next is 0, none":      empty(100, 0),
		"next is greater, one": with(api.MaxNum+2, encoded(api.MaxNum, "x"), nil),
		"both are down":        crashed(with(3, encoded(2, "bc"), encoded(1, "a"))),
	}
	for what, d := range badDevices() {
		bad["0: "+what] = api.Slots{Dev: [2]api.Device{d, up(100, encoded(1, "a"))}, Next: 3}
		bad["1: "+what] = api.Slots{Dev: [2]api.Device{up(100, encoded(2, "bc")), d}, Next: 2}
	}
	return bad
}

func TestCheck(t *testing.T) {
	for what, s := range validSlots() {
		if e := slots.Check(s); e != api.OK {
			t.Error(what, e)
		}
	}
	for what, s := range badSlots() {
		if e := slots.Check(s); e != api.ErrBad {
			t.Error(what, e)
		}
	}
	for _, next := range append([]int{0}, extremes...) {
		for what, s := range validSlots() {
			s.Next = next
			if e := slots.Check(s); e != api.ErrBad {
				t.Error(what, next, e)
			}
		}
	}
	for _, next := range []int{1, 2, 3, 1000, api.MaxNum, api.MaxNum + 1} {
		for what, s := range validSlots() {
			s.Next = next
			if e := slots.Check(s); e != api.OK {
				t.Error(what, next, e)
			}
		}
	}
}

// All functions with slots but Open return Check's error first.
func TestSlotsAreCheckedFirst(t *testing.T) {
	for what, s := range badSlots() {
		for _, n := range []int{0, 1, 3, 4, -1, api.MaxData + 1} {
			b := make([]byte, max(n, 0))
			got, num, e := slots.Save(s, b)
			want(t, what, got, e, api.Slots{}, api.ErrBad)
			if num != 0 {
				t.Error(what, num)
			}
			got, e = slots.Half(s, b, n, 0)
			want(t, what, got, e, api.Slots{}, api.ErrBad)
			got, e = slots.Half(s, nil, 2, n)
			want(t, what, got, e, api.Slots{}, api.ErrBad)
		}
		wantLoad(t, what, s, 0, "", api.ErrBad)
	}
}
