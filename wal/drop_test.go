package wal_test

import (
	"fmt"
	"testing"

	"siding/api"
	"siding/wal"
)

// P4.4

func TestDrop(t *testing.T) {
	data := []string{"a", "", "bc", text(40)}
	ends := []int{0, 13, 25, 39, 91}
	for synced := range 91 + 1 {
		l := with(synced, 5, data...)
		for i, end := range ends {
			got, e := wal.Drop(l, 5+i)
			what := fmt.Sprint(synced, " synced, before ", 5+i)
			if end > synced {
				wantLog(t, what, got, e, api.Log{}, api.ErrOrder)
				continue
			}
			want := with(synced-end, 5+i, data[i:]...)
			wantLog(t, what, got, e, want, api.OK)
			if e := wal.Check(got); e != api.OK {
				t.Error(what, e)
			}
		}
	}
}

func TestDropAtTheLimits(t *testing.T) {
	many := make([]string, api.MaxDisk/12)
	for _, c := range []struct {
		what   string
		l      api.Log
		before int
		want   api.Log
	}{
		{"the zero value", api.Log{}, 0, api.Log{}},
		{"none of none", empty(9, 5), 5, empty(9, 5)},
		{"none behind all numbers", empty(9, api.MaxNum+1), api.MaxNum + 1, empty(9, api.MaxNum+1)},
		{"all", with(39, 5, "a", "bc", ""), 8, empty(api.MaxDisk, 8)},
		{"the number 0", with(13, 0, "a"), 1, empty(api.MaxDisk, 1)},
		{"the greatest number", with(13, api.MaxNum, "a"), api.MaxNum + 1, empty(api.MaxDisk, api.MaxNum+1)},
		{"before the greatest number", with(13, api.MaxNum-1, "a", "b"), api.MaxNum, with(0, api.MaxNum, "b")},
		{"many", with(1666*12, 0, many...), 1000, with(666*12, 1000, many[:666]...)},
		{"all of many", with(1666*12, 0, many...), 1666, empty(api.MaxDisk, 1666)},
		{"the greatest", with(1012, 3, text(api.MaxData), "a"), 4, with(0, 4, "a")},
	} {
		got, e := wal.Drop(c.l, c.before)
		wantLog(t, c.what, got, e, c.want, api.OK)
	}
	got, e := wal.Drop(full(13, 5, "a"), 6)
	wantLog(t, "a full device", got, e, empty(13, 6), api.OK)
}

// ErrArg comes before ErrOrder, also where nothing is synced.
func TestDropErrors(t *testing.T) {
	for _, l := range []api.Log{with(0, 5, "a", "bc"), with(27, 5, "a", "bc"), with(13, 0, "a"), empty(9, 5), {}, empty(9, api.MaxNum+1), with(3, api.MaxNum, "a")} {
		for _, before := range append([]int{l.First - 1, l.Next + 1, l.First - 2, l.Next + 9}, extremes...) {
			got, e := wal.Drop(l, before)
			wantLog(t, fmt.Sprint(l.First, " to ", l.Next, ", ", before), got, e, api.Log{}, api.ErrArg)
		}
	}
}
