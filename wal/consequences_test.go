package wal_test

import (
	"bytes"
	"fmt"
	"math/rand/v2"
	"slices"
	"testing"

	"siding/api"
	"siding/wal"
)

// P4.6

// logsWithRecords are logs of some records, with what is synced ending anywhere.
func logsWithRecords() []api.Log {
	var logs []api.Log
	for _, data := range [][]string{nil, {""}, {"a"}, {"a", "bc"}, {"", "", "abc"}, {text(20), "", "a", text(50)}} {
		for synced := range len(row(5, data...)) + 1 {
			logs = append(logs, with(synced, 5, data...))
		}
	}
	return append(logs, with(10, api.MaxNum-1, "a", "b"), with(0, 0, text(api.MaxData), ""))
}

// Any number up to that of the next synced record opens a device again without a loss.
func TestOpeningAfterACrash(t *testing.T) {
	for _, l := range logsWithRecords() {
		before, _ := wal.Records(l, l.First)
		safe, _ := wal.Synced(l)
		for keep := range len(l.Dev.Tail) + 1 {
			d := crashed(t, l, keep)
			for _, next := range []int{l.First, safe} {
				if next > api.MaxNum {
					continue
				}
				wantBeginning(t, fmt.Sprint(l, keep, next), open(t, d, next), before, l.First, safe)
			}
		}
	}
}

// wantBeginning fails unless a log has the first ones of some records, at least those before a number, and all of them synced.
func wantBeginning(t *testing.T, what string, l api.Log, records []api.Record, first, safe int) {
	t.Helper()
	if l.First != first || l.Next < safe || l.Next > first+len(records) {
		t.Fatal(what, l.First, l.Next)
	}
	got, e := wal.Records(l, first)
	if e != api.OK || !sameRecords(got, records[:l.Next-first]) {
		t.Error(what, got, e)
	}
	if n, e := wal.Synced(l); n != l.Next || e != api.OK || len(l.Dev.Tail) > 0 {
		t.Error(what, n, e)
	}
}

// A crash keeps just the records that are there as a whole.
func TestOpeningKeepsAllWholeRecords(t *testing.T) {
	data := []string{"a", "", "bc"}
	ends := []int{13, 25, 39}
	for synced := range 39 + 1 {
		for keep := range 39 - synced + 1 {
			whole := 0
			for whole < 3 && ends[whole] <= synced+keep {
				whole++
			}
			l := open(t, crashed(t, with(synced, 5, data...), keep), 5)
			wantRecords(t, fmt.Sprint(synced, keep), l, 5, data[:whole]...)
		}
	}
}

func TestOpeningTheDeviceOfALog(t *testing.T) {
	for _, l := range logsWithRecords() {
		want := synced(t, l)
		for next := l.First; next <= min(l.Next, api.MaxNum); next++ {
			got := open(t, l.Dev, next)
			wantLog(t, "open", got, api.OK, want, api.OK)
			wantLog(t, "open again", open(t, got.Dev, next), api.OK, want, api.OK)
			wantLog(t, "open once more", open(t, crashed(t, got, 0), next), api.OK, want, api.OK)
		}
	}
}

func TestDroppingAndOpening(t *testing.T) {
	for _, l := range logsWithRecords() {
		safe, _ := wal.Synced(l)
		for before := l.First; before <= safe && before <= api.MaxNum; before++ {
			left, _ := wal.Records(l, before)
			got := open(t, dropped(t, l, before).Dev, before)
			wantBeginning(t, fmt.Sprint(l, before), got, left, before, l.Next)
		}
	}
}

// model is a log as its records say it: the number of the first one, what they have, and how many bytes of them are synced.
type model struct {
	first, capacity int
	data            []string
	synced          int
}

func (m *model) bytes() []byte { return row(m.first, m.data...) }

func (m *model) log() api.Log {
	return api.Log{Dev: device(m.capacity, m.bytes(), m.synced), First: m.first, Next: m.first + len(m.data)}
}

// whole is how many records there are all of whose bytes are among the first n.
func (m *model) whole(n int) int {
	many := 0
	for many < len(m.data) && len(row(m.first, m.data[:many+1]...)) <= n {
		many++
	}
	return many
}

// step does something with a log and with its model, and returns the log.
func (m *model) step(t *testing.T, r *rand.Rand, l api.Log) api.Log {
	t.Helper()
	switch r.IntN(6) {
	case 0, 1, 2:
		return m.append(t, r, l)
	case 3:
		m.synced = len(m.bytes())
		return synced(t, l)
	case 4:
		return m.drop(t, r, l)
	default:
		return m.crash(t, r, l)
	}
}

func (m *model) append(t *testing.T, r *rand.Rand, l api.Log) api.Log {
	t.Helper()
	data := string(filledWith(r, r.IntN(6)*r.IntN(20)))
	got, num, e := wal.Append(l, []byte(data))
	if len(m.bytes())+12+len(data) > m.capacity {
		wantLog(t, "append to a full device", got, e, api.Log{}, api.ErrFull)
		return l
	}
	if num != m.first+len(m.data) || e != api.OK {
		t.Fatal(num, e)
	}
	m.data = append(m.data, data)
	return got
}

func (m *model) drop(t *testing.T, r *rand.Rand, l api.Log) api.Log {
	t.Helper()
	many := r.IntN(len(m.data) + 1)
	got, e := wal.Drop(l, m.first+many)
	if many > m.whole(m.synced) {
		wantLog(t, "drop of what is not synced", got, e, api.Log{}, api.ErrOrder)
		return l
	}
	if e != api.OK {
		t.Fatal(e)
	}
	m.synced -= len(row(m.first, m.data[:many]...))
	m.first, m.data = m.first+many, m.data[many:]
	return got
}

// crash crashes a device and opens it, with the number of a record that has to be there, or with one that is too great.
func (m *model) crash(t *testing.T, r *rand.Rand, l api.Log) api.Log {
	t.Helper()
	keep := r.IntN(len(m.bytes()) - m.synced + 1)
	safe := m.first + m.whole(m.synced)
	d := crashed(t, l, keep)
	m.data = m.data[:m.whole(m.synced+keep)]
	next := m.first + len(m.data)
	if r.IntN(9) == 0 {
		next += r.IntN(5)
	} else {
		next = safe - r.IntN(min(safe, 3)+1)*r.IntN(2)
	}
	if len(m.data) == 0 || next > m.first+len(m.data) {
		m.first, m.data = next, nil
	}
	m.synced = len(m.bytes())
	return open(t, d, next)
}

func filledWith(r *rand.Rand, n int) []byte {
	b := make([]byte, n)
	for i := range b {
		b[i] = byte(r.Uint32())
	}
	return b
}

// Whatever is done in any order, a log is what its model says.
func TestAnyOrder(t *testing.T) {
	for seed := range uint64(300) {
		r := rand.New(rand.NewPCG(4, seed))
		m := &model{first: r.IntN(9), capacity: 100 + r.IntN(900)}
		l := open(t, api.Device{Cap: m.capacity}, m.first)
		for range 60 {
			l = m.step(t, r, l)
			wantLog(t, fmt.Sprint("seed ", seed), l, wal.Check(l), m.log(), api.OK)
			wantRecords(t, fmt.Sprint("seed ", seed), l, m.first, m.data...)
			if n, e := wal.Synced(l); n != m.first+m.whole(m.synced) || e != api.OK {
				t.Error(seed, n, e)
			}
			if t.Failed() {
				return
			}
		}
	}
}

// What is appended, synced and crashed in any order is a beginning of what was appended, and what follows goes on behind it.
func TestABeginningOfWhatWasAppended(t *testing.T) {
	r := rand.New(rand.NewPCG(4, 1000))
	for range 200 {
		l := open(t, api.Device{Cap: 2000}, 7)
		var appended []api.Record
		safe := 7
		for i := range 20 {
			l = add(t, l, fmt.Sprint("record ", i))
			appended = append(appended, api.Record{Num: l.Next - 1, Data: fmt.Append(nil, "record ", i)})
			if r.IntN(3) == 0 {
				l, safe = synced(t, l), l.Next
			}
			if r.IntN(4) == 0 {
				l = open(t, crashed(t, l, r.IntN(len(l.Dev.Tail)+1)), safe)
				wantBeginning(t, "after a crash", l, appended, 7, safe)
				appended, safe = slices.Clip(appended[:l.Next-7]), l.Next
			}
		}
	}
}

// Bytes of any kind open as what a scan finds, and opening again changes nothing.
func TestOpeningAnyBytes(t *testing.T) {
	r := rand.New(rand.NewPCG(4, 2000))
	for range 3000 {
		b := row(r.IntN(3), "a", "", text(r.IntN(30)))
		for range r.IntN(3) {
			b[r.IntN(len(b))] ^= 1 << r.IntN(8)
		}
		b = b[:len(b)-r.IntN(2)*r.IntN(len(b))]
		next := r.IntN(6)
		l := open(t, device(len(b)+5, b, r.IntN(len(b)+1)), next)
		if wal.Check(l) != api.OK || !bytes.HasPrefix(b, l.Dev.Synced) || l.Next < next || len(l.Dev.Tail) > 0 {
			t.Fatal(b, next, l)
		}
		wantLog(t, "again", open(t, l.Dev, next), api.OK, l, api.OK)
	}
}

// The example of the chapter.
func TestExample(t *testing.T) {
	l := add(t, add(t, open(t, api.Device{Cap: 100}, 5), "a"), "bc")
	wantRecords(t, "appended", l, 5, "a", "bc")
	if n, e := wal.Synced(l); n != 5 || e != api.OK {
		t.Error(n, e)
	}
	d := crashed(t, add(t, synced(t, l), "d"), 12)
	l = open(t, d, 0)
	wantRecords(t, "after a crash", l, 5, "a", "bc")
	if l.First != 5 || l.Next != 7 {
		t.Error(l.First, l.Next)
	}
	wantRecords(t, "dropped", dropped(t, l, 6), 6, "bc")
	wantLog(t, "opened with 9", open(t, d, 9), api.OK, empty(100, 9), api.OK)
}
