package journal_test

import (
	"fmt"
	"testing"

	"siding/api"
	"siding/journal"
)

// P6.3

// pointed is a journal after a checkpoint was made.
func pointed(j api.Journal) api.Journal {
	j = synced(j)
	j.Slots.Dev[j.Slots.Next%2].Synced = encoded(j.Slots.Next, point(j.Log.Next, j.Cells[:]...))
	j.Slots.Next++
	j.Log.Dev.Synced, j.Log.First = nil, j.Log.Next
	return j
}

// saveError is the error of making a checkpoint of a valid journal.
func saveError(j api.Journal) api.Errno {
	if j.Slots.Next > api.MaxNum {
		return api.ErrArg
	}
	if j.Slots.Dev[j.Slots.Next%2].Cap < pointRecord {
		return api.ErrFull
	}
	return api.OK
}

func TestSave(t *testing.T) {
	for what, j := range validJournals() {
		got, e := journal.Save(j)
		if err := saveError(j); err != api.OK {
			want(t, what, got, e, api.Journal{}, err)
			continue
		}
		want(t, what, got, e, pointed(j), api.OK)
		if e := journal.Check(got); e != api.OK && j.Log.Next <= api.MaxNum {
			t.Error(what, e)
		}
	}
}

// The bytes of a checkpoint, as the chapter gives them.
func TestBytesOfACheckpoint(t *testing.T) {
	j := of(based(0x01020304, 1, -2, 256, -256, api.MaxCell, -api.MaxCell), logged(0x01020304, move(6, 7), move(7, -8)), 1, -2, 256, -256, api.MaxCell, -api.MaxCell, 7, -8)
	j = saved(t, j)
	bytes := "\x06\x03\x02\x01\x00\x00\x00\x00" +
		"\x01\x00\x00\x00\x00\x00\x00\x00" + "\xfe\xff\xff\xff\xff\xff\xff\xff" +
		"\x00\x01\x00\x00\x00\x00\x00\x00" + "\x00\xff\xff\xff\xff\xff\xff\xff" +
		"\x00\xca\x9a\x3b\x00\x00\x00\x00" + "\x00\x36\x65\xc4\xff\xff\xff\xff" +
		"\x07\x00\x00\x00\x00\x00\x00\x00" + "\xf8\xff\xff\xff\xff\xff\xff\xff"
	if got := string(j.Slots.Dev[0].Synced[12:]); got != bytes {
		t.Errorf("%q, want %q", got, bytes)
	}
	wantNumber(t, "the number", int(j.Slots.Dev[0].Synced[4]), 2)
}

// Checkpoints alternate, and each one leaves the one before.
func TestCheckpointsAlternate(t *testing.T) {
	j := made(t, 200)
	for i := range 6 {
		before := j
		j = done(t, done(t, j, i, 1), i+1, -1)
		wantNumber(t, "First", j.Log.First, 2*i)
		result := pointed(j)
		j = saved(t, j)
		want(t, fmt.Sprint(i), j, api.OK, result, api.OK)
		if !sameDevice(j.Slots.Dev[i%2], before.Slots.Dev[i%2]) {
			t.Error("the checkpoint before is lost", i)
		}
		wantNumber(t, "First", j.Log.First, 2*i+2)
		wantNumber(t, "bytes", len(j.Log.Dev.Synced), 0)
	}
}

// A checkpoint makes room for operations, and can be made of a journal without any.
func TestSaveMakesRoom(t *testing.T) {
	j := made(t, pointRecord)
	for i := range 20 {
		for k := range pointRecord / moveRecord {
			j = done(t, j, k, i)
		}
		wantDoError(t, "full", j, 0, 1, api.ErrFull)
		j = saved(t, j)
	}
	wantNumber(t, "all", j.Log.Next, 20*(pointRecord/moveRecord))
	for range 3 {
		result := pointed(j)
		j = saved(t, j)
		want(t, "again", j, api.OK, result, api.OK)
	}
}

func TestSaveWithoutRoom(t *testing.T) {
	for _, capacity := range []int{0, 12, 72, pointRecord - 1} {
		j := made(t, capacity)
		got, e := journal.Save(j)
		want(t, fmt.Sprint(capacity), got, e, api.Journal{}, api.ErrFull)
		// Only the slot of the checkpoint has to have the room.
		j.Slots.Dev[1].Cap = pointRecord
		j = saved(t, j)
		got, e = journal.Save(j)
		want(t, fmt.Sprint(capacity), got, e, api.Journal{}, api.ErrFull)
		j.Slots.Dev[0].Cap = pointRecord
		saved(t, saved(t, j))
	}
}

// Numbers of checkpoints end with MaxNum.
func TestSaveUpToTheLastNumber(t *testing.T) {
	j := of(with(api.MaxNum, nil, encoded(api.MaxNum-1, point(2, 5, -2))), logged(2, move(0, 7)), 12, -2)
	result := pointed(j)
	j = saved(t, j)
	want(t, "the last one", j, api.OK, result, api.OK)
	got, e := journal.Save(j)
	want(t, "no more", got, e, api.Journal{}, api.ErrArg)
	j.Slots.Dev[1].Cap = pointRecord - 1
	j.Slots.Dev[1].Synced = nil
	got, e = journal.Save(j)
	want(t, "no more, and no room", got, e, api.Journal{}, api.ErrArg)
}

// A checkpoint behind the last operation counts more of them than one of a valid journal may: Save has no error for it, so it is made, and the journal is not valid any more.
func TestSaveBehindTheLastOperation(t *testing.T) {
	j := of(based(api.MaxNum, 4), logged(api.MaxNum, move(0, 1)), 5)
	got, e := journal.Save(j)
	want(t, "the last operation", got, e, pointed(j), api.OK)
	if e := journal.Check(got); e != api.ErrBad {
		t.Error(e)
	}
	before := of(based(api.MaxNum-1, 4), logged(api.MaxNum-1, move(0, 1)), 5)
	if e := journal.Check(saved(t, before)); e != api.OK {
		t.Error(e)
	}
}
