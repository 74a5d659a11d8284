package journal_test

import (
	"fmt"
	"testing"

	"siding/api"
	"siding/journal"
)

// P6.4

// wantCrash fails unless a crash has this error, and no other result.
func wantCrash(t *testing.T, what string, j api.Journal, stage, keep int, err api.Errno) {
	t.Helper()
	got, e := journal.Crash(j, stage, keep)
	want(t, fmt.Sprint(what, ", stage ", stage, ", keeps ", keep), got, e, api.Journal{}, err)
}

func TestCrash(t *testing.T) {
	for what, j := range validJournals() {
		for stage := range 6 {
			for keep := range tail(j, stage) + 1 {
				if err := saveError(j); err != api.OK && stage > 1 {
					wantCrash(t, what, j, stage, keep, err)
					continue
				}
				got, e := journal.Crash(j, stage, keep)
				want(t, fmt.Sprint(what, ", stage ", stage, ", keeps ", keep), got, e, crashed(j, stage, keep), api.OK)
				if e := journal.Check(got); e != api.ErrBad {
					t.Error(what, stage, keep, e)
				}
			}
		}
	}
}

// What the devices have after each stage, written out.
func TestWhatIsLeft(t *testing.T) {
	j := of(based(1, 5), unsynced(logged(0, move(0, 5), move(1, -2)), 21), 5, -2)
	both, older, newer := string(logged(0, move(0, 5), move(1, -2)).Dev.Synced), string(encoded(1, point(1, 5))), string(encoded(2, point(2, 5, -2)))
	j.Slots.Dev[0].Synced = []byte("old")
	for _, c := range []struct {
		stage, keep, first int
		log, zero          string
	}{
		{0, 0, 0, both[:21], "old"}, {0, 1, 0, both[:22], "old"}, {0, 20, 0, both[:41], "old"}, {0, 21, 0, both, "old"},
		{1, 0, 0, both, "old"}, {2, 0, 0, both, ""},
		{3, 0, 0, both, ""}, {3, 1, 0, both, newer[:1]}, {3, 83, 0, both, newer[:83]}, {3, 84, 0, both, newer},
		{4, 0, 0, both, newer}, {5, 0, 2, "", newer},
	} {
		result := down(of(with(2, []byte(c.zero), []byte(older)), api.Log{Dev: up(api.MaxDisk, []byte(c.log)), First: c.first, Next: 2}))
		got, e := journal.Crash(j, c.stage, c.keep)
		want(t, fmt.Sprint(c.stage, c.keep), got, e, result, api.OK)
	}
}

func TestCrashAtNoStage(t *testing.T) {
	for what, j := range validJournals() {
		for _, stage := range append([]int{-1, -2, 6, 7}, extremes...) {
			wantCrash(t, what, j, stage, 0, api.ErrArg)
			wantCrash(t, what, j, stage, -1, api.ErrArg)
		}
	}
}

// A crash keeps at most the tail of the device that has one.
func TestCrashKeepsAtMostTheTail(t *testing.T) {
	for what, j := range validJournals() {
		for stage := range 6 {
			err := api.ErrArg
			if stage > 1 && saveError(j) != api.OK {
				err = saveError(j)
			}
			most := tail(j, stage)
			for _, keep := range append([]int{-1, -2, most + 1, most + 2, api.MaxDisk}, extremes...) {
				wantCrash(t, what, j, stage, keep, err)
			}
		}
	}
}

// The stage is checked first, then what Save checks, from the stage 2 on, and what is kept last.
func TestOrderOfErrorsOfCrash(t *testing.T) {
	full := of(based(2, 5, -2), unsynced(logged(2, move(0, 7)), 0), 12, -2)
	full.Slots.Dev[0].Cap = pointRecord - 1
	last := full
	last.Slots = with(api.MaxNum+1, encoded(api.MaxNum, point(2, 5, -2)), nil)
	for what, c := range map[string]struct {
		j api.Journal
		e api.Errno
	}{"full": {full, api.ErrFull}, "the last number": {last, api.ErrArg}} {
		for keep := range moveRecord + 1 {
			got, e := journal.Crash(c.j, 0, keep)
			want(t, what, got, e, crashed(c.j, 0, keep), api.OK)
		}
		got, e := journal.Crash(c.j, 1, 0)
		want(t, what, got, e, crashed(c.j, 1, 0), api.OK)
		wantCrash(t, what, c.j, 0, moveRecord+1, api.ErrArg)
		wantCrash(t, what, c.j, 1, 1, api.ErrArg)
		for stage := 2; stage <= 5; stage++ {
			for _, keep := range []int{0, 1, -1, pointRecord, pointRecord + 1} {
				wantCrash(t, what, c.j, stage, keep, c.e)
			}
		}
		wantCrash(t, what, c.j, 6, 0, api.ErrArg)
		wantCrash(t, what, c.j, -1, 0, api.ErrArg)
	}
}

// At the stage 0 the whole tail of the log may survive, also that of the greatest one.
func TestCrashOfAGreatLog(t *testing.T) {
	j := made(t, api.MaxDisk)
	for i := range api.MaxDisk / moveRecord / 4 {
		j = done(t, j, i%8, 1)
	}
	most := len(j.Log.Dev.Tail)
	for _, keep := range []int{0, 1, most / 2, most - 1, most} {
		got, e := journal.Crash(j, 0, keep)
		want(t, fmt.Sprint(keep), got, e, crashed(j, 0, keep), api.OK)
	}
	wantCrash(t, "more than the tail", j, 0, most+1, api.ErrArg)
}

// A crash leaves a journal that is down, with which nothing else can be done than recovering it.
func TestNothingIsDoneBehindACrash(t *testing.T) {
	j := done(t, made(t, 1000), 0, 5)
	for stage := range 6 {
		left := broken(t, j, stage, 0)
		wantDoError(t, "do", left, 0, 1, api.ErrBad)
		wantCrash(t, "crash", left, stage, 0, api.ErrBad)
		got, e := journal.Sync(left)
		want(t, "sync", got, e, api.Journal{}, api.ErrBad)
		got, e = journal.Save(left)
		want(t, "save", got, e, api.Journal{}, api.ErrBad)
		restored(t, left)
	}
}
