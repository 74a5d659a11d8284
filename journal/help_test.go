package journal_test

import (
	"bytes"
	"encoding/binary"
	"hash/crc32"
	"math"
	"slices"
	"strings"
	"testing"

	"siding/api"
	"siding/journal"
)

type state = [api.MaxCells]int

// How many bytes the record of an operation and that of a checkpoint have.
const (
	moveRecord  = 21
	pointRecord = 84
)

// extremes are numbers that are out of every range.
var extremes = []int{math.MinInt, math.MinInt + 1, math.MinInt32, -1 << 32, math.MaxInt32, math.MaxUint32, 1 << 32, 1<<32 + 1, math.MaxInt - 1, math.MaxInt}

// number are the eight bytes of a number, made with Go's own library.
func number(n int) string {
	return string(binary.LittleEndian.AppendUint64(nil, uint64(int64(n))))
}

// move are the nine bytes of an operation.
func move(cell, add int) string { return string([]byte{byte(cell)}) + number(add) }

// point are the 72 bytes of a checkpoint; the numbers that are not given are 0.
func point(done int, cells ...int) string {
	s := number(done)
	for _, n := range stateOf(cells...) {
		s += number(n)
	}
	return s
}

// stateOf is a state that begins with these numbers.
func stateOf(cells ...int) state {
	var s state
	copy(s[:], cells)
	return s
}

// encoded are the bytes of a record, made with Go's own library.
func encoded(num int, data string) []byte {
	head := binary.LittleEndian.AppendUint32(nil, uint32(len(data)))
	head = binary.LittleEndian.AppendUint32(head, uint32(num))
	sum := crc32.ChecksumIEEE(slices.Concat(head, []byte(data)))
	return append(binary.LittleEndian.AppendUint32(head, sum), data...)
}

func up(capacity int, b []byte) api.Device { return api.Device{Synced: b, Cap: capacity} }

// with are slots of the greatest capacity with these bytes.
func with(next int, zero, one []byte) api.Slots {
	return api.Slots{Dev: [2]api.Device{up(api.MaxDisk, zero), up(api.MaxDisk, one)}, Next: next}
}

// without are slots without bytes.
func without() api.Slots { return with(1, nil, nil) }

// based are slots with one checkpoint, which has the number 1.
func based(done int, cells ...int) api.Slots {
	return with(2, nil, encoded(1, point(done, cells...)))
}

// logged is a log of the greatest capacity, whose records have these bytes and are synced.
func logged(first int, data ...string) api.Log {
	var b []byte
	for i, one := range data {
		b = append(b, encoded(first+i, one)...)
	}
	return api.Log{Dev: up(api.MaxDisk, b), First: first, Next: first + len(data)}
}

// unsynced is a log of which only the first n bytes are synced.
func unsynced(l api.Log, n int) api.Log {
	l.Dev.Synced, l.Dev.Tail = l.Dev.Synced[:n:n], l.Dev.Synced[n:]
	return l
}

// of is a journal whose state begins with these numbers.
func of(s api.Slots, l api.Log, cells ...int) api.Journal {
	return api.Journal{Slots: s, Log: l, Cells: stateOf(cells...)}
}

// blank is a journal without bytes.
func blank(capacity int) api.Journal {
	d := up(capacity, nil)
	return api.Journal{Slots: api.Slots{Dev: [2]api.Device{d, d}, Next: 1}, Log: api.Log{Dev: d}}
}

// devices are the three devices of a journal.
func devices(j *api.Journal) []*api.Device {
	return []*api.Device{&j.Slots.Dev[0], &j.Slots.Dev[1], &j.Log.Dev}
}

// down is a journal whose devices are down, without what they did not sync.
func down(j api.Journal) api.Journal {
	for _, d := range devices(&j) {
		d.Tail, d.Down = nil, true
	}
	return j
}

// synced is a journal whose log is synced.
func synced(j api.Journal) api.Journal {
	j.Log.Dev.Synced, j.Log.Dev.Tail = slices.Concat(j.Log.Dev.Synced, j.Log.Dev.Tail), nil
	return j
}

func sameDevice(a, b api.Device) bool {
	return bytes.Equal(a.Synced, b.Synced) && bytes.Equal(a.Tail, b.Tail) && a.Cap == b.Cap && a.Down == b.Down
}

func same(a, b api.Journal) bool {
	return sameDevice(a.Slots.Dev[0], b.Slots.Dev[0]) && sameDevice(a.Slots.Dev[1], b.Slots.Dev[1]) &&
		a.Slots.Next == b.Slots.Next && sameDevice(a.Log.Dev, b.Log.Dev) &&
		a.Log.First == b.Log.First && a.Log.Next == b.Log.Next && a.Cells == b.Cells
}

// want fails unless a call returned this journal and this error.
func want(t *testing.T, what string, got api.Journal, e api.Errno, j api.Journal, err api.Errno) {
	t.Helper()
	if e != err || !same(got, j) {
		t.Errorf("%s: got %v, %d, want %v, %d", what, got, e, j, err)
	}
}

// wantNumber fails unless a call returned this number.
func wantNumber(t *testing.T, what string, got, n int) {
	t.Helper()
	if got != n {
		t.Errorf("%s: got %d, want %d", what, got, n)
	}
}

// scanned are the bytes of the records with which b begins, the number of the first one, and where the last one ends, read without the lower layers.
func scanned(b []byte) (first int, data []string, used int) {
	for len(b)-used >= 12 {
		length, num := int(binary.LittleEndian.Uint32(b[used:])), int(binary.LittleEndian.Uint32(b[used+4:]))
		if length > api.MaxData || num > api.MaxNum || len(b)-used < 12+length {
			break
		}
		one := string(b[used+12 : used+12+length])
		if !bytes.HasPrefix(b[used:], encoded(num, one)) || len(data) > 0 && num != first+len(data) {
			break
		}
		if len(data) == 0 {
			first = num
		}
		data, used = append(data, one), used+12+length
	}
	return first, data, used
}

// newest are the number and the bytes of the newest checkpoint of slots that have no tails; 0 and those of a state with only zeros, if there is none.
func newest(s api.Slots) (int, string) {
	num, data, some := 0, point(0), false
	for slot, d := range s.Dev {
		n, l, _ := scanned(d.Synced)
		if len(l) > 0 && n&1 == slot && (!some || n > num) {
			num, data, some = n, l[0], true
		}
	}
	return num, data
}

// numbers are those of which bytes are made.
func numbers(data string) []int {
	var l []int
	for ; data != ""; data = data[8:] {
		l = append(l, int(int64(binary.LittleEndian.Uint64([]byte(data)))))
	}
	return l
}

func within(n, most int) bool { return -most <= n && n <= most }

// played is what the bytes of operations make of the bytes of a checkpoint, if all of them are valid.
func played(data string, moves []string) (state, bool) {
	cells := stateOf(numbers(data)[1:]...)
	for _, one := range moves {
		if len(one) != 9 || one[0] > 7 {
			return state{}, false
		}
		add := numbers(one[1:])[0]
		cells[one[0]] += add
		if !within(add, api.MaxAdd) || !within(cells[one[0]], api.MaxCell) {
			return state{}, false
		}
	}
	return cells, true
}

// recovered is what recovering a journal has to return whose devices are valid.
func recovered(j api.Journal) (api.Journal, int, api.Errno) {
	bad := func() (api.Journal, int, api.Errno) { return api.Journal{}, 0, api.ErrBad }
	for _, d := range devices(&j) {
		d.Synced, d.Tail, d.Down = slices.Concat(d.Synced, d.Tail), nil, false
	}
	num, data := newest(j.Slots)
	if len(data) != 72 {
		return bad()
	}
	j.Slots.Next = num + 1
	done := numbers(data)[0]
	if done < 0 || done > api.MaxNum || slices.ContainsFunc(numbers(data)[1:], func(n int) bool { return !within(n, api.MaxCell) }) {
		return bad()
	}
	first, moves, used := scanned(j.Log.Dev.Synced)
	if first+len(moves) < done || len(moves) == 0 {
		first, moves, used = done, nil, 0
	}
	if first > done {
		return bad()
	}
	j.Log.Dev.Synced, j.Log.First, j.Log.Next = j.Log.Dev.Synced[:used], first, first+len(moves)
	cells, ok := played(data, moves[done-first:])
	if !ok {
		return bad()
	}
	j.Cells = cells
	return j, j.Log.Next, api.OK
}

// valid reports whether a journal is valid whose devices are: whether it is up, and recovering it leaves it as it is.
func valid(j api.Journal) bool {
	for i, d := range devices(&j) {
		if d.Down || i < 2 && len(d.Tail) > 0 {
			return false
		}
	}
	r, _, e := recovered(j)
	return e == api.OK && same(r, synced(j))
}

// crashed is what a crash at a stage leaves of a journal.
func crashed(j api.Journal, stage, keep int) api.Journal {
	record := encoded(j.Slots.Next, point(j.Log.Next, j.Cells[:]...))
	slot := &j.Slots.Dev[j.Slots.Next%2]
	if stage == 0 {
		j.Log.Dev.Tail = j.Log.Dev.Tail[:keep]
	}
	j = synced(j)
	switch stage {
	case 2:
		slot.Synced = nil
	case 3:
		slot.Synced = record[:keep]
	case 4, 5:
		slot.Synced = record
	}
	if stage == 5 {
		j.Log.Dev.Synced, j.Log.First = nil, j.Log.Next
	}
	j.Cells = state{}
	return down(j)
}

// tail is how many bytes a crash at a stage may keep.
func tail(j api.Journal, stage int) int {
	switch stage {
	case 0:
		return len(j.Log.Dev.Tail)
	case 3:
		return pointRecord
	}
	return 0
}

func made(t *testing.T, capacity int) api.Journal {
	t.Helper()
	j, e := journal.New(capacity)
	if e != api.OK {
		t.Fatal("new", capacity, e)
	}
	return j
}

func done(t *testing.T, j api.Journal, cell, add int) api.Journal {
	t.Helper()
	got, num, e := journal.Do(j, api.Move{Cell: cell, Add: add})
	if e != api.OK || num != j.Log.Next {
		t.Fatal("do", cell, add, num, e)
	}
	return got
}

func saved(t *testing.T, j api.Journal) api.Journal {
	t.Helper()
	j, e := journal.Save(j)
	if e != api.OK {
		t.Fatal("save", e)
	}
	return j
}

func flushed(t *testing.T, j api.Journal) api.Journal {
	t.Helper()
	j, e := journal.Sync(j)
	if e != api.OK {
		t.Fatal("sync", e)
	}
	return j
}

func broken(t *testing.T, j api.Journal, stage, keep int) api.Journal {
	t.Helper()
	j, e := journal.Crash(j, stage, keep)
	if e != api.OK {
		t.Fatal("crash", stage, keep, e)
	}
	return j
}

func restored(t *testing.T, j api.Journal) api.Journal {
	t.Helper()
	j, n, e := journal.Recover(j)
	if e != api.OK || n != j.Log.Next {
		t.Fatal("recover", n, e)
	}
	return j
}

// text has n bytes, that differ from their neighbours.
func text(n int) string {
	var b strings.Builder
	for i := range n {
		b.WriteByte(byte(i*37 + i/256 + 1))
	}
	return b.String()
}
