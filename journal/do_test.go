package journal_test

import (
	"fmt"
	"slices"
	"testing"

	"siding/api"
	"siding/journal"
)

// P6.2

// after is a journal in which an operation is logged and done.
func after(j api.Journal, cell, add int) api.Journal {
	j.Log.Dev.Tail = slices.Concat(j.Log.Dev.Tail, encoded(j.Log.Next, move(cell, add)))
	j.Log.Next++
	j.Cells[cell] += add
	return j
}

// hasRoom reports whether a journal can log another operation.
func hasRoom(j api.Journal) bool {
	return j.Log.Next <= api.MaxNum && len(j.Log.Dev.Synced)+len(j.Log.Dev.Tail)+moveRecord <= j.Log.Dev.Cap
}

func TestDo(t *testing.T) {
	for what, j := range validJournals() {
		if !hasRoom(j) {
			continue
		}
		for cell := range api.MaxCells {
			for _, add := range []int{0, 1, -1, 255, 256, -256, 0x0a0b0c, api.MaxAdd - 1, api.MaxAdd, -api.MaxAdd} {
				got, num, e := journal.Do(j, api.Move{Cell: cell, Add: add})
				if !within(j.Cells[cell]+add, api.MaxCell) {
					want(t, fmt.Sprint(what, cell, add), got, e, api.Journal{}, api.ErrRange)
					wantNumber(t, what, num, 0)
					continue
				}
				want(t, fmt.Sprint(what, cell, add), got, e, after(j, cell, add), api.OK)
				wantNumber(t, what, num, j.Log.Next)
				if e := journal.Check(got); e != api.OK {
					t.Error(what, cell, add, e)
				}
			}
		}
	}
}

// The bytes of an operation, as the chapter gives them.
func TestBytesOfAnOperation(t *testing.T) {
	j := done(t, made(t, 100), 7, 0x010203)
	j = done(t, j, 3, -2)
	j = done(t, j, 0, -1_000_000)
	for i, bytes := range []string{"\x07\x03\x02\x01\x00\x00\x00\x00\x00", "\x03\xfe\xff\xff\xff\xff\xff\xff\xff", "\x00\xc0\xbd\xf0\xff\xff\xff\xff\xff"} {
		if got := string(j.Log.Dev.Tail[i*moveRecord+12 : (i+1)*moveRecord]); got != bytes {
			t.Errorf("%d: %q, want %q", i, got, bytes)
		}
	}
	wantNumber(t, "bytes", len(j.Log.Dev.Tail), 3*moveRecord)
}

func TestOperationsUpToTheBounds(t *testing.T) {
	for _, sign := range []int{1, -1} {
		for cell := range api.MaxCells {
			var cells state
			cells[cell] = sign * (api.MaxCell - api.MaxAdd)
			j := of(based(1, cells[:]...), logged(1), cells[:]...)
			j = done(t, j, cell, sign*api.MaxAdd)
			wantNumber(t, "at the bound", j.Cells[cell], sign*api.MaxCell)
			for _, add := range []int{1, 2, api.MaxAdd} {
				got, num, e := journal.Do(j, api.Move{Cell: cell, Add: sign * add})
				want(t, "over the bound", got, e, api.Journal{}, api.ErrRange)
				wantNumber(t, "over the bound", num, 0)
			}
			j = done(t, done(t, j, cell, 0), cell, -sign)
			wantNumber(t, "below the bound", done(t, j, cell, sign).Cells[cell], sign*api.MaxCell)
		}
	}
}

// wantDoError fails unless an operation has this error, and no other results.
func wantDoError(t *testing.T, what string, j api.Journal, cell, add int, err api.Errno) {
	t.Helper()
	got, num, e := journal.Do(j, api.Move{Cell: cell, Add: add})
	want(t, fmt.Sprint(what, cell, add), got, e, api.Journal{}, err)
	wantNumber(t, what, num, 0)
}

func TestOperationsThatAreNotValid(t *testing.T) {
	for what, j := range validJournals() {
		for _, cell := range append([]int{-1, -2, 8, 9, 255, 256}, extremes...) {
			wantDoError(t, what, j, cell, 0, api.ErrArg)
			wantDoError(t, what, j, cell, api.MaxAdd, api.ErrArg)
		}
		for _, add := range append([]int{api.MaxAdd + 1, -api.MaxAdd - 1, api.MaxCell, -api.MaxCell}, extremes...) {
			for cell := range api.MaxCells {
				wantDoError(t, what, j, cell, add, api.ErrArg)
			}
		}
	}
}

// A log that is full, or has the last record, takes no operation more.
func TestDoInAFullLog(t *testing.T) {
	for _, capacity := range []int{0, 20, 21, 41, 42, 100} {
		j := made(t, capacity)
		for i := range capacity / moveRecord {
			j = done(t, j, i, i+1)
		}
		for range 2 {
			wantDoError(t, fmt.Sprint(capacity), j, 0, 1, api.ErrFull)
			wantDoError(t, fmt.Sprint(capacity), j, 8, 1, api.ErrArg)
			j = flushed(t, j)
		}
	}
	most := of(based(api.MaxNum, api.MaxCell), logged(api.MaxNum), api.MaxCell)
	wantDoError(t, "before the last record", most, 0, 1, api.ErrRange)
	most = done(t, most, 0, -1)
	wantDoError(t, "behind the last record", most, 0, 1, api.ErrArg)
	wantDoError(t, "behind the last record, out of range", most, 0, 2, api.ErrRange)
	most.Log.Dev.Cap = moveRecord
	wantDoError(t, "behind the last record, full", most, 1, 1, api.ErrArg)
	full := of(based(1, api.MaxCell), logged(1), api.MaxCell)
	full.Log.Dev.Cap = moveRecord - 1
	wantDoError(t, "full, out of range", full, 0, 1, api.ErrRange)
	wantDoError(t, "full, not valid", full, 0, api.MaxAdd+1, api.ErrArg)
	wantDoError(t, "full", full, 0, -1, api.ErrFull)
}

// A log is full, whatever room the slots have.
func TestTheRoomOfTheLogCounts(t *testing.T) {
	j := made(t, api.MaxDisk)
	for i := range api.MaxDisk / moveRecord {
		if i%100 == 0 {
			j = flushed(t, j)
		}
		j = done(t, j, i%8, i)
	}
	wantDoError(t, "full", j, 0, 0, api.ErrFull)
	j.Slots.Dev[0].Cap, j.Slots.Dev[1].Cap = 0, 0
	wantDoError(t, "full", j, 0, 0, api.ErrFull)
	j.Log.Dev.Cap = 0
	if e := journal.Check(j); e != api.ErrBad {
		t.Error(e)
	}
	small := made(t, 0)
	small.Log.Dev.Cap = moveRecord
	done(t, small, 0, 1)
}

func TestSync(t *testing.T) {
	for what, j := range validJournals() {
		got, e := journal.Sync(j)
		want(t, what, got, e, synced(j), api.OK)
		again, e := journal.Sync(got)
		want(t, what, again, e, got, api.OK)
	}
	for n := range 3*moveRecord + 1 {
		j := of(without(), unsynced(logged(0, move(0, 5), move(1, -2), move(0, 7)), n), 12, -2)
		got, e := journal.Sync(j)
		want(t, fmt.Sprint(n), got, e, synced(j), api.OK)
	}
}
