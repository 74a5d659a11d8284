package journal_test

import (
	"fmt"
	"math/rand/v2"
	"slices"
	"testing"

	"siding/api"
	"siding/journal"
)

// P6.6

// history is a journal with the operations that were done on it, and how many of these are in a checkpoint.
type history struct {
	j      api.Journal
	moves  []api.Move
	points int
}

func (h history) does(t *testing.T, cell, add int) history {
	h.moves = append(slices.Clone(h.moves), api.Move{Cell: cell, Add: add})
	h.j = done(t, h.j, cell, add)
	return h
}

func (h history) saves(t *testing.T) history {
	h.j, h.points = saved(t, h.j), len(h.moves)
	return h
}

func (h history) syncs(t *testing.T) history {
	h.j = flushed(t, h.j)
	return h
}

// state is that after the first n operations.
func (h history) state(n int) state {
	var cells state
	for _, m := range h.moves[:n] {
		cells[m.Cell] += m.Add
	}
	return cells
}

// synced is how many operations are synced, or in a checkpoint.
func (h history) synced() int {
	return max(h.points, h.j.Log.First+len(h.j.Log.Dev.Synced)/moveRecord)
}

// histories are made in different orders.
func histories(t *testing.T) map[string]history {
	none := history{j: made(t, 500)}
	two := none.does(t, 0, 5).does(t, 1, -2)
	example := two.saves(t).does(t, 0, 7)
	more := example.syncs(t).does(t, 7, 1).does(t, 7, -1)
	return map[string]history{
		"none":                       none,
		"a checkpoint of none":       none.saves(t),
		"two":                        two,
		"two, synced":                two.syncs(t),
		"two, one of them synced":    none.does(t, 0, 5).syncs(t).does(t, 1, -2),
		"two in a checkpoint":        two.saves(t),
		"in two checkpoints":         two.saves(t).saves(t),
		"one behind a checkpoint":    example,
		"some behind a checkpoint":   more,
		"some in another checkpoint": more.saves(t),
		"some more behind that":      more.saves(t).does(t, 3, 1).does(t, 4, 1).syncs(t).does(t, 5, 1),
		"three checkpoints":          more.saves(t).does(t, 3, 1).saves(t).does(t, 4, 1),
	}
}

// survivors is how many operations are there after a crash.
func (h history) survivors(stage, keep int) int {
	if stage > 0 {
		return len(h.moves)
	}
	return h.synced() + keep/moveRecord
}

func TestCrashAndRecovery(t *testing.T) {
	for what, h := range histories(t) {
		for stage := range 6 {
			for keep := range tail(h.j, stage) + 1 {
				what := fmt.Sprint(what, ", stage ", stage, ", keeps ", keep)
				j, n, e := journal.Recover(broken(t, h.j, stage, keep))
				if e != api.OK || n != h.survivors(stage, keep) || j.Cells != h.state(n) {
					t.Error(what, n, j.Cells, e)
				}
				if n < h.synced() || n > len(h.moves) || j.Log.Next != n || journal.Check(j) != api.OK {
					t.Error(what, n, j)
				}
				goesOn(t, what, j)
			}
		}
	}
}

// goesOn fails unless a journal does all that a journal does, and keeps it over a crash.
func goesOn(t *testing.T, what string, j api.Journal) {
	t.Helper()
	n, cells := j.Log.Next, j.Cells
	for i := range 3 {
		j = done(t, j, i, 10)
		cells[i] += 10
	}
	for _, some := range []api.Journal{flushed(t, j), saved(t, j), done(t, saved(t, j), 0, 1)} {
		got := restored(t, broken(t, some, 0, 0))
		if got.Cells != cells || got.Log.Next != n+3 {
			t.Error(what, got)
		}
	}
	if got := restored(t, broken(t, j, 0, moveRecord)); got.Log.Next != n+1 || got.Cells[0] != cells[0] || got.Cells[1] != cells[1]-10 {
		t.Error(what, got)
	}
}

// A crash behind another one loses nothing that was there after recovery.
func TestCrashesBehindCrashes(t *testing.T) {
	for what, h := range histories(t) {
		for stage := range 6 {
			for keep := range tail(h.j, stage) + 1 {
				j := restored(t, broken(t, h.j, stage, keep))
				for again := range 6 {
					for _, kept := range []int{0, tail(j, again) / 2, tail(j, again)} {
						got := restored(t, broken(t, j, again, kept))
						if got.Cells != j.Cells || got.Log.Next != j.Log.Next {
							t.Error(what, stage, keep, again, kept, got)
						}
					}
				}
			}
		}
	}
}

// Making a checkpoint changes no number, and after it no crash loses anything.
func TestCheckpointsKeepAll(t *testing.T) {
	for what, h := range histories(t) {
		j := saved(t, h.j)
		if j.Cells != h.j.Cells || j.Log.Next != h.j.Log.Next {
			t.Error(what, j)
		}
		for _, left := range []api.Journal{j, down(j), broken(t, j, 0, 0), broken(t, j, 2, 0), broken(t, j, 3, 50)} {
			got := restored(t, left)
			if got.Cells != h.j.Cells || got.Log.Next != len(h.moves) {
				t.Error(what, got)
			}
		}
	}
}

func TestRecoveryWithoutACrash(t *testing.T) {
	for what, h := range histories(t) {
		j, n, e := journal.Recover(h.j)
		want(t, what, j, e, flushed(t, h.j), api.OK)
		wantNumber(t, what, n, len(h.moves))
		again, n, e := journal.Recover(j)
		want(t, what, again, e, j, api.OK)
		wantNumber(t, what, n, len(h.moves))
	}
}

// An operation that has an error, or a checkpoint that has one, changes nothing.
func TestErrorsChangeNothing(t *testing.T) {
	j := made(t, 2*moveRecord)
	j = done(t, done(t, j, 0, 5), 1, -2)
	before := crashed(j, 0, 2*moveRecord)
	for range 3 {
		wantDoError(t, "full", j, 0, 1, api.ErrFull)
		got, e := journal.Save(j)
		want(t, "full", got, e, api.Journal{}, api.ErrFull)
	}
	want(t, "as before", broken(t, j, 0, 2*moveRecord), api.OK, before, api.OK)
}

// model is what a journal has to say: the operations that were done, and how many of them no crash loses.
type model struct {
	moves []api.Move
	kept  int
}

func (m *model) cells() state {
	return history{moves: m.moves}.state(len(m.moves))
}

// do does any operation, which may be not valid.
func (m *model) do(t *testing.T, r *rand.Rand, j api.Journal) api.Journal {
	t.Helper()
	one := api.Move{Cell: r.IntN(10) - 1, Add: r.IntN(2*api.MaxAdd+20) - api.MaxAdd - 10}
	cells, err := m.cells(), api.OK
	switch {
	case one.Cell < 0 || one.Cell > 7 || !within(one.Add, api.MaxAdd):
		err = api.ErrArg
	case !within(cells[one.Cell]+one.Add, api.MaxCell):
		err = api.ErrRange
	case !hasRoom(j):
		err = api.ErrFull
	}
	if err != api.OK {
		wantDoError(t, "any", j, one.Cell, one.Add, err)
		return j
	}
	m.moves = append(m.moves, one)
	return done(t, j, one.Cell, one.Add)
}

// crash crashes a journal at any stage, and recovers it.
func (m *model) crash(t *testing.T, r *rand.Rand, j api.Journal) api.Journal {
	t.Helper()
	stage := r.IntN(6)
	if stage > 1 && saveError(j) != api.OK {
		wantCrash(t, "any", j, stage, 0, saveError(j))
		return j
	}
	keep := r.IntN(tail(j, stage) + 1)
	left := broken(t, j, stage, keep)
	want(t, "any crash", left, api.OK, crashed(j, stage, keep), api.OK)
	if stage == 0 {
		m.moves = m.moves[:m.kept+keep/moveRecord]
	}
	m.kept = len(m.moves)
	return restored(t, left)
}

// step does something with a journal, and returns it.
func (m *model) step(t *testing.T, r *rand.Rand, j api.Journal) api.Journal {
	t.Helper()
	switch r.IntN(12) {
	case 0:
		m.kept = len(m.moves)
		return flushed(t, j)
	case 1:
		m.kept = len(m.moves)
		return restored(t, j)
	case 2:
		if err := saveError(j); err != api.OK {
			got, e := journal.Save(j)
			want(t, "any", got, e, api.Journal{}, err)
			return j
		}
		m.kept = len(m.moves)
		return saved(t, j)
	case 3, 4:
		return m.crash(t, r, j)
	default:
		return m.do(t, r, j)
	}
}

// Whatever is done in any order, a journal has the state of the operations that were not lost.
func TestAnyOrder(t *testing.T) {
	for seed := range uint64(300) {
		r := rand.New(rand.NewPCG(6, seed))
		j := made(t, 60+r.IntN(200))
		m := &model{}
		for range 100 {
			j = m.step(t, r, j)
			if j.Cells != m.cells() || j.Log.Next != len(m.moves) || journal.Check(j) != api.OK || !valid(j) {
				t.Error("seed", seed, j, m.moves)
			}
			if t.Failed() {
				return
			}
		}
	}
}

// someBytes are those of records, or nearly.
func someBytes(r *rand.Rand, first int, data func() string) []byte {
	var b []byte
	for i := range r.IntN(5) {
		b = append(b, encoded(first+i, data())...)
	}
	for range r.IntN(2) * r.IntN(2) * min(len(b), 1) {
		b[r.IntN(len(b))] ^= 1 << r.IntN(8)
	}
	return b[:len(b)-r.IntN(2)*r.IntN(len(b)+1)]
}

// Bytes of any kind are valid and recover as a reading without the lower layers says.
func TestAnyBytes(t *testing.T) {
	r := rand.New(rand.NewPCG(6, 1000))
	number := func(most int) int { return []int{0, 1, -1, most, -most, most - 1, -most + 1, r.IntN(most)}[r.IntN(8)] }
	anyMove := func() string {
		one := move(r.IntN(8)+r.IntN(30)/29, number(api.MaxAdd+r.IntN(30)/29))
		return one[:9-r.IntN(40)/39]
	}
	anyPoint := func() string {
		var cells state
		for i := range cells {
			cells[i] = number(api.MaxCell + r.IntN(60)/59)
		}
		one := point(r.IntN(8)-r.IntN(30)/29, cells[:]...)
		return one[:72-r.IntN(30)/29]
	}
	good, bad := 0, 0
	for range 20000 {
		s := with(1+r.IntN(4), someBytes(r, r.IntN(3)*2, anyPoint), someBytes(r, 1+r.IntN(2)*2, anyPoint))
		l := api.Log{Dev: up(api.MaxDisk, someBytes(r, r.IntN(4), anyMove)), First: r.IntN(4), Next: r.IntN(8)}
		j := of(s, l, 1, 2)
		wantRecovered(t, "any", j)
		wantRecovered(t, "any, down", down(j))
		e := journal.Check(j)
		if result, _, err := recovered(j); err == api.OK {
			good++
			// Its own numbers are those of the recovered journal: now only bytes that are cut off make it one that is not valid.
			result.Log.Dev.Synced = j.Log.Dev.Synced
			j, e = result, journal.Check(result)
		} else {
			bad++
		}
		if valid(j) != (e == api.OK) {
			t.Error("any", j, e)
		}
	}
	if good < 1000 || bad < 1000 {
		t.Error("these are hardly any", good, bad)
	}
}

// The example of the chapter.
func TestExample(t *testing.T) {
	j := done(t, done(t, made(t, 1000), 0, 5), 1, -2)
	j = done(t, saved(t, j), 0, 7)
	for keep, c := range map[int]struct{ cell, n int }{20: {5, 2}, 21: {12, 3}} {
		got, n, e := journal.Recover(broken(t, j, 0, keep))
		if got.Cells != stateOf(c.cell, -2) || n != c.n || e != api.OK {
			t.Error(keep, got.Cells, n, e)
		}
	}
}
