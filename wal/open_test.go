package wal_test

import (
	"fmt"
	"slices"
	"testing"

	"siding/api"
	"siding/wal"
)

// P4.1: Open

type opening struct {
	what string
	d    api.Device
	next int
	want api.Log
}

func wantOpenings(t *testing.T, l []opening) {
	t.Helper()
	for _, o := range l {
		got, e := wal.Open(o.d, o.next)
		wantLog(t, fmt.Sprint(o.what, ", ", o.next), got, e, o.want, api.OK)
		if e := wal.Check(got); e != api.OK {
			t.Error(o.what, o.next, e)
		}
	}
}

func TestOpenWithoutRecords(t *testing.T) {
	torn := row(5, "abc")[:14]
	wantOpenings(t, []opening{
		{"the zero value", api.Device{}, 0, empty(0, 0)},
		{"new", api.Device{Cap: 30}, 0, empty(30, 0)},
		{"new", api.Device{Cap: 30}, 5, empty(30, 5)},
		{"new", api.Device{Cap: api.MaxDisk}, api.MaxNum, empty(api.MaxDisk, api.MaxNum)},
		{"new and down", down(30, nil), 0, empty(30, 0)},
		{"new and down", down(30, nil), 6, empty(30, 6)},
		{"torn", device(14, torn, 14), 5, empty(14, 5)},
		{"torn", device(30, torn, 0), 0, empty(30, 0)},
		{"torn", device(30, torn, 7), 9, empty(30, 9)},
		{"torn and down", down(14, torn), 5, empty(14, 5)},
		{"torn and down", down(30, torn), 0, empty(30, 0)},
		{"a changed byte", device(30, changed(row(5, "abc"), 13), 3), 1, empty(30, 1)},
		{"one byte", device(1, []byte{1}, 0), 0, empty(1, 0)},
		{"zeros", device(50, make([]byte, 50), 20), 2, empty(50, 2)},
		{"a full device of zeros", down(api.MaxDisk, make([]byte, api.MaxDisk)), 2, empty(api.MaxDisk, 2)},
		{"a number that is too great", device(30, row(api.MaxNum+1, "a"), 0), 2, empty(30, 2)},
		{"a record that is too great", device(2000, row(0, text(api.MaxData+1)), 0), 0, empty(2000, 0)},
	})
}

// The numbers with which a log of records up to 7 is kept end with 8, which is the next one.
func TestOpenWithRecords(t *testing.T) {
	b := row(5, "a", "bc", "")
	var whole, cut []opening
	for _, next := range []int{0, 1, 4, 5, 6, 7, 8} {
		kept := api.Log{Dev: device(50, b, len(b)), First: 5, Next: 8}
		whole = append(whole,
			opening{"synced", device(50, b, len(b)), next, kept},
			opening{"not synced", device(50, b, 0), next, kept},
			opening{"between two", device(50, b, 13), next, kept},
			opening{"synced in part", device(50, b, 30), next, kept},
			opening{"down", down(50, b), next, kept})
	}
	for _, next := range []int{9, 10, 100, api.MaxNum - 1, api.MaxNum} {
		cut = append(cut,
			opening{"synced", device(50, b, len(b)), next, empty(50, next)},
			opening{"not synced", device(50, b, 0), next, empty(50, next)},
			opening{"synced in part", device(50, b, 30), next, empty(50, next)},
			opening{"down", down(50, b), next, empty(50, next)})
	}
	wantOpenings(t, whole)
	wantOpenings(t, cut)
}

func TestOpenWithTornRecords(t *testing.T) {
	b := row(5, "a", "bc", "def")
	two := api.Log{Dev: device(60, b[:27], 27), First: 5, Next: 7}
	for n := 27; n < len(b); n++ {
		for _, next := range []int{0, 5, 6, 7} {
			wantOpenings(t, []opening{
				{"torn", device(60, b[:n], 27), next, two},
				{"torn, not synced", device(60, b[:n], 0), next, two},
				{"torn, synced", device(60, b[:n], n), next, two},
				{"torn, down", down(60, b[:n]), next, two},
			})
		}
		// The record 7 is not there as a whole.
		for _, next := range []int{8, 9} {
			wantOpenings(t, []opening{
				{"torn", device(60, b[:n], 27), next, empty(60, next)},
				{"torn, down", down(60, b[:n]), next, empty(60, next)},
			})
		}
	}
}

func TestOpenWithOtherBytesBehind(t *testing.T) {
	b := row(5, "a", "bc")
	two := api.Log{Dev: device(90, b, len(b)), First: 5, Next: 7}
	for what, more := range map[string][]byte{
		"zeros":             make([]byte, 30),
		"a gap":             row(8, "x"),
		"the last one":      row(6, "bc"),
		"the first one":     row(5, "a", "bc"),
		"a number of 0":     row(0, "x"),
		"a changed number":  changed(row(7, "x"), 4),
		"a changed byte":    changed(row(7, "x"), 12),
		"a changed sum":     changed(row(7, "x"), 8),
		"one record behind": append([]byte{0}, row(7, "x")...),
	} {
		all := slices.Concat(b, more)
		for _, next := range []int{0, 6, 7} {
			wantOpenings(t, []opening{
				{what, device(90, all, 27), next, two},
				{what, device(90, all, 0), next, two},
				{what, down(90, all), next, two},
			})
		}
		wantOpenings(t, []opening{{what, down(90, all), 8, empty(90, 8)}, {what, down(90, all), 9, empty(90, 9)}})
	}
}

func TestOpenAtTheLimits(t *testing.T) {
	last := row(api.MaxNum-1, "a", "b")
	many := row(0, make([]string, api.MaxDisk/12)...)
	great := row(3, text(api.MaxData))
	kept := api.Log{Dev: device(26, last, 26), First: api.MaxNum - 1, Next: api.MaxNum + 1}
	wantOpenings(t, []opening{
		{"the greatest number", device(26, last, 3), 0, kept},
		{"the greatest number", down(26, last), api.MaxNum, kept},
		{"one less", device(26, last[:13], 3), api.MaxNum, api.Log{Dev: device(26, last[:13], 13), First: api.MaxNum - 1, Next: api.MaxNum}},
		{"two less", device(26, row(api.MaxNum-2, "a"), 3), api.MaxNum, empty(26, api.MaxNum)},
		{"many", device(api.MaxDisk, many, 100), 1666, api.Log{Dev: device(api.MaxDisk, many, len(many)), Next: 1666}},
		{"many", down(api.MaxDisk, many), 1667, empty(api.MaxDisk, 1667)},
		{"the greatest", down(1012, great), 4, api.Log{Dev: device(1012, great, 1012), First: 3, Next: 4}},
		{"the number 0", down(20, row(0, "")), 0, api.Log{Dev: device(20, row(0, ""), 12), Next: 1}},
		{"the number 0", down(20, row(0, "")), 1, api.Log{Dev: device(20, row(0, ""), 12), Next: 1}},
		{"the number 0", down(20, row(0, "")), 2, empty(20, 2)},
	})
}

func TestOpenErrors(t *testing.T) {
	b := row(5, "a")
	for _, next := range append([]int{api.MaxNum + 1}, extremes...) {
		for _, d := range []api.Device{{}, {Cap: 30}, device(30, b, 13), device(30, b, 0), down(30, b), down(30, nil)} {
			got, e := wal.Open(d, next)
			wantLog(t, fmt.Sprint(d, next), got, e, api.Log{}, api.ErrArg)
		}
	}
	for _, next := range append([]int{0, 1, 5, 6, api.MaxNum, api.MaxNum + 1}, extremes...) {
		for _, d := range []api.Device{
			{Cap: -1},
			{Cap: api.MaxDisk + 1},
			device(12, b, 0),
			device(12, b, 13),
			{Synced: b, Tail: []byte{1}, Cap: 30, Down: true},
			{Tail: b, Cap: 30, Down: true},
			device(api.MaxDisk, make([]byte, api.MaxDisk+1), 4),
		} {
			got, e := wal.Open(d, next)
			wantLog(t, fmt.Sprint(len(d.Synced), d.Cap, next), got, e, api.Log{}, api.ErrBad)
		}
	}
}
