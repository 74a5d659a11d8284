package slots_test

import (
	"fmt"
	"testing"

	"siding/api"
	"siding/slots"
)

// P5.2

type saving struct {
	what string
	s    api.Slots
	data string
	want api.Slots
}

func savings() []saving {
	great, other := text(api.MaxData), "other"
	return []saving{
		{"the first", with(1, nil, nil), "a", with(2, nil, encoded(1, "a"))},
		{"the second", with(2, nil, encoded(1, "a")), "bc", with(3, encoded(2, "bc"), encoded(1, "a"))},
		{"the third", with(3, encoded(2, "bc"), encoded(1, "a")), "d", with(4, encoded(2, "bc"), encoded(3, "d"))},
		{"the fourth", with(4, encoded(2, "bc"), encoded(3, "d")), "ef", with(5, encoded(4, "ef"), encoded(3, "d"))},
		{"no bytes, odd", with(1, nil, nil), "", with(2, nil, encoded(1, ""))},
		{"no bytes, even", with(2, nil, nil), "", with(3, encoded(2, ""), nil)},
		{"no bytes for some", with(4, encoded(2, "bc"), nil), "", with(5, encoded(4, ""), nil)},
		{"the greatest, odd", with(1, nil, nil), great, with(2, nil, encoded(1, great))},
		{"the greatest, even", with(2, nil, nil), great, with(3, encoded(2, great), nil)},
		{"less than the greatest", with(4, encoded(2, great), nil), "x", with(5, encoded(4, "x"), nil)},
		{"a torn record", with(3, encoded(2, "bc"), encoded(1, other)[:9]), "d", with(4, encoded(2, "bc"), encoded(3, "d"))},
		{"foreign bytes", with(3, []byte(great), []byte(great)), "d", with(4, []byte(great), encoded(3, "d"))},
		{"wrong slots", with(3, encoded(1, "a"), encoded(2, "bc")), "d", with(4, encoded(1, "a"), encoded(3, "d"))},
		{"a great number", with(0x01020304, nil, nil), "x", with(0x01020305, encoded(0x01020304, "x"), nil)},
		{"the last number but one", with(api.MaxNum-1, nil, nil), "x", with(api.MaxNum, nil, encoded(api.MaxNum-1, "x"))},
		{"the last number", with(api.MaxNum, nil, encoded(api.MaxNum-1, "x")), "y",
			with(api.MaxNum+1, encoded(api.MaxNum, "y"), encoded(api.MaxNum-1, "x"))},
		{"a number that the other slot is behind", with(9, encoded(4, "x"), encoded(3, "y")), "z", with(10, encoded(4, "x"), encoded(9, "z"))},
		{"the number of the newest", with(4, encoded(4, "x"), encoded(3, "y")), "z", with(5, encoded(4, "z"), encoded(3, "y"))},
		{"a number before the newest", with(1, encoded(4, "x"), encoded(3, "y")), "z", with(2, encoded(4, "x"), encoded(1, "z"))},
		{"behind the number 0", with(1, encoded(0, "zero"), nil), "z", with(2, encoded(0, "zero"), encoded(1, "z"))},
	}
}

func TestSave(t *testing.T) {
	for _, c := range savings() {
		got, num, e := slots.Save(c.s, []byte(c.data))
		want(t, c.what, got, e, c.want, api.OK)
		if num != c.s.Next {
			t.Error(c.what, num)
		}
		if e := slots.Check(got); e != api.OK {
			t.Error(c.what, e)
		}
	}
}

// Only the capacity of the slot of the next number counts, and not what it holds.
func TestSaveUpToTheCapacity(t *testing.T) {
	for _, n := range []int{0, 1, 2, 500, api.MaxData} {
		for _, next := range []int{1, 2, 3, 4, api.MaxNum - 1, api.MaxNum} {
			for _, room := range []int{0, 1, 11, 12, 11 + n, 12 + n, 13 + n, api.MaxDisk} {
				s := empty(0, next)
				s.Dev[next%2] = up(room, []byte(text(room)))
				result := s
				result.Dev[next%2].Synced = encoded(next, text(n))
				result.Next++
				wantSave(t, fmt.Sprint(n, next, room), s, n, result, room < 12+n)
				s.Dev[1-next%2] = up(api.MaxDisk, []byte("other"))
				result.Dev[1-next%2] = s.Dev[1-next%2]
				wantSave(t, fmt.Sprint(n, next, room, " and room elsewhere"), s, n, result, room < 12+n)
			}
		}
	}
}

// wantSave fails unless saving n bytes gives these slots, or ErrFull.
func wantSave(t *testing.T, what string, s api.Slots, n int, result api.Slots, full bool) {
	t.Helper()
	got, num, e := slots.Save(s, []byte(text(n)))
	if full {
		want(t, what, got, e, api.Slots{}, api.ErrFull)
	} else {
		want(t, what, got, e, result, api.OK)
	}
	if full && num != 0 || !full && num != s.Next {
		t.Error(what, num)
	}
}

// hindered is a saving of n bytes that has an error.
type hindered struct {
	what string
	s    api.Slots
	n    int
	want api.Errno
}

// hinderedSavings show that ErrMany comes before ErrArg, and this before ErrFull.
func hinderedSavings() []hindered {
	last := empty(api.MaxDisk, api.MaxNum+1)
	return []hindered{
		{"too many bytes", empty(api.MaxDisk, 1), api.MaxData + 1, api.ErrMany},
		{"far too many bytes", empty(api.MaxDisk, 2), 3 * api.MaxDisk, api.ErrMany},
		{"too many bytes for the slot, too", empty(0, 1), api.MaxData + 1, api.ErrMany},
		{"too many bytes behind all numbers", last, api.MaxData + 1, api.ErrMany},
		{"too many bytes for all", empty(0, api.MaxNum+1), api.MaxData + 1, api.ErrMany},
		{"behind all numbers", last, 1, api.ErrArg},
		{"no bytes behind all numbers", last, 0, api.ErrArg},
		{"behind all numbers without room", empty(0, api.MaxNum+1), api.MaxData, api.ErrArg},
		{"behind the last one", with(api.MaxNum+1, encoded(api.MaxNum, "x"), nil), 1, api.ErrArg},
		{"no room", empty(11, 1), 0, api.ErrFull},
		{"no room, even", empty(11, 2), 0, api.ErrFull},
		{"no room for a byte", empty(12, 1), 1, api.ErrFull},
		{"no room for the greatest", empty(api.MaxData+11, 2), api.MaxData, api.ErrFull},
		{"no room at the last number", empty(0, api.MaxNum), 0, api.ErrFull},
	}
}

func TestSaveErrors(t *testing.T) {
	for _, c := range hinderedSavings() {
		got, num, e := slots.Save(c.s, make([]byte, c.n))
		want(t, c.what, got, e, api.Slots{}, c.want)
		if num != 0 {
			t.Error(c.what, num)
		}
	}
}
