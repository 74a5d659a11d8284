package journal_test

import (
	"bytes"
	"slices"
	"testing"

	"siding/api"
	"siding/journal"
)

// memory is where arguments lie: each slice has bytes of others behind its length.
type memory struct {
	all   []byte
	moves []api.Move
	// whether the devices are down, or have tails
	down, cut bool
}

// The places of the parts of the memory.
const (
	zeroEnd = pointRecord + 2
	oneAt   = zeroEnd + 5
	oneEnd  = oneAt + pointRecord
	logAt   = oneEnd + 5
	logEnd  = logAt + 2*moveRecord
)

func newMemory() memory {
	log := slices.Concat(encoded(2, move(0, 7)), encoded(3, move(1, 1)))
	return memory{
		all:   slices.Concat(encoded(2, point(2, 5, -2)), []byte("--other"), encoded(1, point(1, 5)), []byte("after"), log, make([]byte, 200)),
		moves: []api.Move{{Cell: 0, Add: 1}, {Cell: 1, Add: 2}, {Cell: 2, Add: 3}},
	}
}

// journal is one of which all slices lie in the memory, and that has two slots with checkpoints and two operations behind them.
func (m memory) journal() api.Journal {
	zero := api.Device{Synced: m.all[:zeroEnd], Tail: m.all[zeroEnd:zeroEnd], Cap: 200, Down: m.down}
	one := api.Device{Synced: m.all[oneAt:oneEnd], Tail: m.all[oneEnd:oneEnd], Cap: 200, Down: m.down}
	log := api.Device{Synced: m.all[logAt : logAt+10], Tail: m.all[logAt+10 : logEnd], Cap: 200}
	if m.down {
		log = api.Device{Synced: m.all[logAt:logEnd], Tail: m.all[logEnd:logEnd], Cap: 200, Down: true}
	}
	if m.cut {
		zero.Synced, zero.Tail = m.all[:5], m.all[5:zeroEnd]
		one.Synced, one.Tail = m.all[oneAt:oneAt], m.all[oneAt:oneEnd]
	}
	s := api.Slots{Dev: [2]api.Device{zero, one}, Next: 3}
	return api.Journal{Slots: s, Log: api.Log{Dev: log, First: 2, Next: 4}, Cells: stateOf(12, -1)}
}

func (m memory) equal(other memory) bool {
	return bytes.Equal(m.all, other.all) && slices.Equal(m.moves, other.moves)
}

func slicesOf(j api.Journal) [][]byte {
	var l [][]byte
	for _, d := range devices(&j) {
		l = append(l, d.Synced, d.Tail)
	}
	return l
}

// calls are all functions with the slices of their results, and whether they have an error.
func calls() map[string]func(m memory) ([][]byte, bool) {
	with := func(f func(j api.Journal) (api.Journal, api.Errno)) func(m memory) ([][]byte, bool) {
		return func(m memory) ([][]byte, bool) {
			j, e := f(m.journal())
			return slicesOf(j), e != api.OK
		}
	}
	recovery := func(down, cut bool) func(m memory) ([][]byte, bool) {
		return func(m memory) ([][]byte, bool) {
			m.down, m.cut = down, cut
			j, _, e := journal.Recover(m.journal())
			return slicesOf(j), e != api.OK
		}
	}
	crash := func(stage, keep int) func(m memory) ([][]byte, bool) {
		return with(func(j api.Journal) (api.Journal, api.Errno) { return journal.Crash(j, stage, keep) })
	}
	return map[string]func(m memory) ([][]byte, bool){
		"new":   with(func(api.Journal) (api.Journal, api.Errno) { return journal.New(100) }),
		"check": with(func(j api.Journal) (api.Journal, api.Errno) { return api.Journal{}, journal.Check(j) }),
		"apply": func(m memory) ([][]byte, bool) {
			_, e := journal.Apply(state{}, m.moves[:2])
			return nil, e != api.OK
		},
		"do": with(func(j api.Journal) (api.Journal, api.Errno) {
			j, _, e := journal.Do(j, api.Move{Cell: 2, Add: 1})
			return j, e
		}),
		"sync":                      with(journal.Sync),
		"save":                      with(journal.Save),
		"recover":                   recovery(false, false),
		"recover what is down":      recovery(true, false),
		"recover with tails":        recovery(false, true),
		"stage 0, nothing":          crash(0, 0),
		"stage 0, some bytes":       crash(0, 15),
		"stage 0, all bytes":        crash(0, 2*moveRecord-10),
		"stage 1":                   crash(1, 0),
		"stage 2":                   crash(2, 0),
		"stage 3, nothing":          crash(3, 0),
		"stage 3, some bytes":       crash(3, 30),
		"stage 3, all bytes":        crash(3, pointRecord),
		"stage 4":                   crash(4, 0),
		"stage 5":                   crash(5, 0),
		"error: stage":              crash(6, 0),
		"error: keeps":              crash(3, pointRecord+1),
		"error: keeps of the log":   crash(0, 2*moveRecord),
		"error: what is down":       func(m memory) ([][]byte, bool) { m.down = true; return with(journal.Save)(m) },
		"error: with tails":         func(m memory) ([][]byte, bool) { m.cut = true; return with(journal.Sync)(m) },
		"error: no valid operation": with(func(j api.Journal) (api.Journal, api.Errno) { j, _, e := journal.Do(j, api.Move{Cell: 8}); return j, e }),
		"error: no valid row": func(m memory) ([][]byte, bool) {
			_, e := journal.Apply(stateOf(0, api.MaxCell), m.moves[:2])
			return nil, e != api.OK
		},
	}
}

func scribble(b []byte) {
	b = b[:cap(b)]
	for i := range b {
		b[i] ^= 0xff
	}
}

func equal(a, b [][]byte) bool { return slices.EqualFunc(a, b, bytes.Equal) }

// R2

func TestArgumentsStay(t *testing.T) {
	for name, call := range calls() {
		m := newMemory()
		if _, failed := call(m); failed != bytes.HasPrefix([]byte(name), []byte("error")) {
			t.Error(name, failed)
		}
		if !m.equal(newMemory()) {
			t.Error(name)
		}
	}
}

func TestResultsShareNoMemory(t *testing.T) {
	for name, call := range calls() {
		m := newMemory()
		first, _ := call(m)
		second, _ := call(m)
		kept, _ := call(newMemory())
		for i := range first {
			scribble(first[i])
			if !m.equal(newMemory()) {
				t.Error(name, i, "a result shares memory with an argument")
			}
			if !equal(first[i+1:], kept[i+1:]) {
				t.Error(name, i, "the parts of a result share memory")
			}
			if !equal(second, kept) {
				t.Error(name, i, "results share memory")
			}
		}
	}
}

func TestResultsStayWhenArgumentsChange(t *testing.T) {
	for name, call := range calls() {
		m := newMemory()
		got, _ := call(m)
		kept, _ := call(newMemory())
		scribble(m.all)
		if !equal(got, kept) {
			t.Error(name)
		}
	}
}

// Journals that go on from the same one do not meet.
func TestTwoJournalsFromOne(t *testing.T) {
	j := done(t, made(t, 200), 0, 5)
	one, two := done(t, j, 1, 1), done(t, j, 2, 2)
	three, four := saved(t, one), saved(t, two)
	for what, c := range map[string]struct {
		j     api.Journal
		cells state
	}{"before": {j, stateOf(5)}, "one": {one, stateOf(5, 1)}, "two": {two, stateOf(5, 0, 2)}, "three": {three, stateOf(5, 1)}, "four": {four, stateOf(5, 0, 2)}} {
		if got := restored(t, c.j); got.Cells != c.cells {
			t.Error(what, got.Cells)
		}
	}
}

// R3

func TestNilAndEmptyBytesAreEqual(t *testing.T) {
	for _, b := range [][]byte{nil, {}, []byte("abc")[:0]} {
		d := api.Device{Synced: b, Tail: b, Cap: 100}
		j := api.Journal{Slots: api.Slots{Dev: [2]api.Device{d, d}, Next: 1}, Log: api.Log{Dev: d}}
		if e := journal.Check(j); e != api.OK {
			t.Error(e)
		}
		started(t, "empty", j)
		want(t, "sync", flushed(t, j), api.OK, blank(100), api.OK)
		want(t, "save", saved(t, j), api.OK, pointed(blank(100)), api.OK)
		want(t, "do", done(t, j, 3, 4), api.OK, after(blank(100), 3, 4), api.OK)
		for stage := range 6 {
			want(t, "crash", broken(t, j, stage, 0), api.OK, crashed(blank(100), stage, 0), api.OK)
			want(t, "recover", restored(t, down(j)), api.OK, blank(100), api.OK)
		}
	}
	wantApply(t, "no operations", stateOf(1), []api.Move{}, stateOf(1), api.OK)
}

// R7

// callAll calls all functions with a journal and a number.
func callAll(j api.Journal, n int) {
	journal.New(n)
	journal.Check(j)
	journal.Do(j, api.Move{Cell: n, Add: 1})
	journal.Do(j, api.Move{Cell: 1, Add: n})
	journal.Sync(j)
	journal.Save(j)
	for stage := range 6 {
		journal.Crash(j, stage, n)
	}
	journal.Crash(j, n, 0)
	journal.Crash(j, n, n)
	journal.Recover(j)
	journal.Apply(j.Cells, []api.Move{{Cell: n, Add: n}})
}

func TestNoCallPanics(t *testing.T) {
	all := validJournals()
	for _, some := range []map[string]api.Journal{badBytes(), badDevices(), {"the zero value": {}}} {
		for what, j := range some {
			all["bad: "+what] = j
		}
	}
	for _, j := range all {
		for _, n := range append([]int{-1, 0, 7, 8, api.MaxNum, api.MaxNum + 1}, extremes...) {
			callAll(j, n)
			other := j
			other.Slots.Next, other.Log.First = n, n
			callAll(other, n)
			other.Log.Next, other.Cells[0] = n, n
			callAll(other, n)
			for _, d := range devices(&other) {
				d.Cap = n
				callAll(other, n)
			}
		}
	}
}
