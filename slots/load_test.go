package slots_test

import (
	"fmt"
	"slices"
	"testing"

	"siding/api"
)

// P5.4

func TestLoad(t *testing.T) {
	great := text(api.MaxData)
	for _, c := range []struct {
		what      string
		zero, one []byte
		num       int
		data      string
	}{
		{"an odd one", nil, encoded(1, "a"), 1, "a"},
		{"an even one", encoded(2, "bc"), nil, 2, "bc"},
		{"the even one of two", encoded(2, "bc"), encoded(1, "a"), 2, "bc"},
		{"the odd one of two", encoded(2, "bc"), encoded(3, "d"), 3, "d"},
		{"no bytes", encoded(2, ""), nil, 2, ""},
		{"no bytes, behind some", encoded(2, "bc"), encoded(3, ""), 3, ""},
		{"the greatest, and a torn one", encoded(2, great), encoded(3, great)[:1011], 2, great},
		{"the greatest of two", encoded(2, great), encoded(1, "a"), 2, great},
		{"the number 0", encoded(0, "zero"), nil, 0, "zero"},
		{"the number 0 without bytes", encoded(0, ""), nil, 0, ""},
		{"the number 1 behind 0", encoded(0, "zero"), encoded(1, "a"), 1, "a"},
		{"the greatest number", encoded(api.MaxNum, "x"), encoded(api.MaxNum-1, "y"), api.MaxNum, "x"},
		{"the greatest odd number", encoded(api.MaxNum-2, "x"), encoded(api.MaxNum-1, "y"), api.MaxNum - 1, "y"},
		{"numbers that are far apart", encoded(2, "x"), encoded(api.MaxNum-1, "y"), api.MaxNum - 1, "y"},
		{"numbers by all their bytes", encoded(0x0100, "x"), encoded(0x00ff, "y"), 0x0100, "x"},
		{"numbers by their highest bytes", encoded(0x01000000, "x"), encoded(0x00ffffff, "y"), 0x01000000, "x"},
		{"a record more behind", slices.Concat(encoded(2, "bc"), encoded(3, "no")), nil, 2, "bc"},
		{"greater records behind", slices.Concat(encoded(2, "bc"), encoded(3, ""), encoded(4, "no")), encoded(3, "d"), 3, "d"},
		{"a greater one behind alone", encoded(2, "bc"), slices.Concat(encoded(1, "a"), encoded(2, ""), encoded(3, "no")), 2, "bc"},
		{"foreign bytes behind", append(encoded(2, "bc"), "foreign"...), append(encoded(1, "a"), 0), 2, "bc"},
	} {
		for _, next := range []int{1, 2, 3, 4, c.num + 1, api.MaxNum + 1} {
			wantLoad(t, fmt.Sprint(c.what, next), with(next, c.zero, c.one), c.num, c.data, api.OK)
		}
	}
}

// noCheckpoints are bytes that are no checkpoint of the slot 0, and no one of the slot 1.
func noCheckpoints() map[string][2][]byte {
	even, odd := encoded(6, "even"), encoded(7, "odd")
	return map[string][2][]byte{
		"nothing":                     {},
		"one byte":                    {{6}, {7}},
		"a head alone":                {even[:12], odd[:12]},
		"one byte is missing":         {even[:len(even)-1], odd[:len(odd)-1]},
		"the wrong slot":              {odd, even},
		"the wrong slot and the next": {slices.Concat(odd, encoded(8, "x")), slices.Concat(even, encoded(7, "x"))},
		"the number 1, the number 0":  {encoded(1, "x"), encoded(0, "x")},
		"a byte before":               {append([]byte{0}, even...), append([]byte{0}, odd...)},
		"a changed length":            {changed(even, 0), changed(odd, 0)},
		"a changed number":            {changed(even, 4), changed(odd, 4)},
		"a changed sum":               {changed(even, 8), changed(odd, 8)},
		"a changed byte":              {changed(even, 12), changed(odd, 12)},
		"a changed byte at last":      {changed(even, len(even)-1), changed(odd, len(odd)-1)},
		"a number above all":          {encoded(api.MaxNum+2, "x"), encoded(api.MaxNum+1, "x")},
		"more bytes than allowed":     {encoded(6, text(api.MaxData+1)), encoded(7, text(api.MaxData+1))},
		"zeros":                       {make([]byte, 40), make([]byte, api.MaxDisk)},
		"foreign":                     {[]byte("foreign bytes of some length"), []byte(text(api.MaxDisk))},
	}
}

func TestLoadWithoutACheckpoint(t *testing.T) {
	for zero, none := range noCheckpoints() {
		for one, other := range noCheckpoints() {
			for _, next := range []int{1, 2, api.MaxNum + 1} {
				wantLoad(t, fmt.Sprint(zero, ", ", one), with(next, none[0], other[1]), 0, "", api.ErrNone)
			}
		}
	}
}

// A bad device does not hide the other one's checkpoint, whether that has the greater number or not.
func TestLoadWithOneCheckpoint(t *testing.T) {
	for what, none := range noCheckpoints() {
		for _, num := range []int{0, 2, 6, 8, api.MaxNum} {
			wantLoad(t, what, with(3, encoded(num, "good"), none[1]), num, "good", api.OK)
		}
		for _, num := range []int{1, 5, 7, 9, api.MaxNum - 1} {
			wantLoad(t, what, with(3, none[0], encoded(num, "good")), num, "good", api.OK)
		}
	}
}

func TestLoadAllValidSlots(t *testing.T) {
	for what, s := range validSlots() {
		num, data, e := newest(s)
		wantLoad(t, what, s, num, data, e)
	}
}
