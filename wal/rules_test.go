package wal_test

import (
	"bytes"
	"slices"
	"testing"

	"siding/api"
	"siding/wal"
)

// memory is where arguments lie: each slice has bytes of others behind its length.
type memory struct {
	all          []byte
	synced, tail int
	data         []byte
}

// newMemory has the bytes of three records, of which so many are synced, other bytes, those of two records, and others.
func newMemory(synced int) memory {
	l := row(5, "a", "bc", "def")
	m := memory{synced: synced, tail: len(l) - synced}
	m.all = slices.Concat(l[:synced], []byte("between"), l[synced:], []byte("behind"), []byte("data and more"))
	m.data = m.all[len(m.all)-13:][:4]
	return m
}

func (m memory) device() api.Device {
	return api.Device{Synced: m.all[:m.synced], Tail: m.all[m.synced+7:][:m.tail], Cap: 200}
}

func (m memory) log() api.Log { return api.Log{Dev: m.device(), First: 5, Next: 8} }

func deviceBytes(d api.Device) [][]byte { return [][]byte{d.Synced, d.Tail} }

// calls are all functions with the slices of their results.
func calls() map[string]func(m memory) [][]byte {
	return map[string]func(m memory) [][]byte{
		"check":  func(m memory) [][]byte { wal.Check(m.log()); return nil },
		"synced": func(m memory) [][]byte { wal.Synced(m.log()); return nil },
		"open":   func(m memory) [][]byte { l, _ := wal.Open(m.device(), 3); return deviceBytes(l.Dev) },
		"open anew": func(m memory) [][]byte {
			l, _ := wal.Open(m.device(), 30)
			return deviceBytes(l.Dev)
		},
		"open a torn device": func(m memory) [][]byte {
			m.tail = max(0, m.tail-1)
			l, _ := wal.Open(m.device(), 3)
			return deviceBytes(l.Dev)
		},
		"open a device that is down": func(m memory) [][]byte {
			d := m.device()
			d.Tail, d.Down = nil, true
			l, _ := wal.Open(d, 3)
			return deviceBytes(l.Dev)
		},
		"append": func(m memory) [][]byte { l, _, _ := wal.Append(m.log(), m.data); return deviceBytes(l.Dev) },
		"append nothing": func(m memory) [][]byte {
			l, _, _ := wal.Append(m.log(), m.data[:0])
			return deviceBytes(l.Dev)
		},
		"sync":      func(m memory) [][]byte { l, _ := wal.Sync(m.log()); return deviceBytes(l.Dev) },
		"drop none": func(m memory) [][]byte { l, _ := wal.Drop(m.log(), 5); return deviceBytes(l.Dev) },
		"drop one":  func(m memory) [][]byte { l, _ := wal.Drop(m.log(), 6); return deviceBytes(l.Dev) },
		"drop all":  func(m memory) [][]byte { l, _ := wal.Drop(m.log(), 8); return deviceBytes(l.Dev) },
		"crash":     func(m memory) [][]byte { d, _ := wal.Crash(m.log(), 0); return deviceBytes(d) },
		"crash and keep": func(m memory) [][]byte {
			d, _ := wal.Crash(m.log(), m.tail)
			return deviceBytes(d)
		},
		"records":      func(m memory) [][]byte { return records(m, 5) },
		"records of 7": func(m memory) [][]byte { return records(m, 7) },
		"no records":   func(m memory) [][]byte { return records(m, 8) },
		"errors": func(m memory) [][]byte {
			wal.Open(m.device(), -1)
			wal.Append(m.log(), m.all[:cap(m.all)])
			wal.Records(m.log(), 9)
			wal.Drop(m.log(), 9)
			wal.Crash(m.log(), m.tail+1)
			bad := m.log()
			bad.Next++
			wal.Sync(bad)
			wal.Append(bad, m.data)
			return nil
		},
	}
}

func records(m memory, from int) [][]byte {
	var data [][]byte
	l, _ := wal.Records(m.log(), from)
	for _, r := range l {
		data = append(data, r.Data)
	}
	return data
}

// memories are those with nothing, something and all synced.
func memories() []int { return []int{0, 13, 20, 27, 42} }

func scribble(b []byte) {
	b = b[:cap(b)]
	for i := range b {
		b[i] ^= 0xff
	}
}

func equal(a, b [][]byte) bool { return slices.EqualFunc(a, b, bytes.Equal) }

// R2

func TestArgumentsStay(t *testing.T) {
	for name, call := range calls() {
		for _, n := range memories() {
			m := newMemory(n)
			call(m)
			if !bytes.Equal(m.all, newMemory(n).all) {
				t.Error(name, n)
			}
		}
	}
}

func TestResultsShareNoMemory(t *testing.T) {
	for name, call := range calls() {
		for _, n := range memories() {
			m := newMemory(n)
			first, second, kept := call(m), call(m), call(newMemory(n))
			for i := range first {
				scribble(first[i])
				if !bytes.Equal(m.all, newMemory(n).all) {
					t.Error(name, n, i, "a result shares memory with an argument")
				}
				if !equal(first[i+1:], kept[i+1:]) {
					t.Error(name, n, i, "the parts of a result share memory")
				}
				if !equal(second, kept) {
					t.Error(name, n, i, "results share memory")
				}
			}
		}
	}
}

func TestResultsStayWhenArgumentsChange(t *testing.T) {
	for name, call := range calls() {
		for _, n := range memories() {
			m := newMemory(n)
			got, kept := call(m), call(newMemory(n))
			scribble(m.all)
			if !equal(got, kept) {
				t.Error(name, n)
			}
		}
	}
}

func TestListsOfRecordsShareNoMemory(t *testing.T) {
	l := with(13, 5, "a", "bc")
	first, _ := wal.Records(l, 5)
	second, _ := wal.Records(l, 5)
	for i := range first[:cap(first)] {
		first[:cap(first)][i] = api.Record{Num: 9, Data: []byte("x")}
	}
	if !sameRecords(second, []api.Record{{Num: 5, Data: []byte("a")}, {Num: 6, Data: []byte("bc")}}) {
		t.Error(second)
	}
	wantRecords(t, "later", l, 5, "a", "bc")
}

// Logs that go on from the same log do not meet in memory.
func TestTwoLogsFromOne(t *testing.T) {
	l := add(t, open(t, api.Device{Cap: 200}, 5), "a")
	one, two := add(t, l, "one"), add(t, l, "two")
	wantRecords(t, "one", one, 5, "a", "one")
	wantRecords(t, "two", two, 5, "a", "two")
	wantRecords(t, "before", l, 5, "a")
}

// R3

func TestNilAndEmptyBytesAreEqual(t *testing.T) {
	for _, b := range [][]byte{nil, {}, []byte("abc")[:0]} {
		d := api.Device{Synced: b, Tail: b, Cap: 30}
		l := open(t, d, 5)
		wantLog(t, "open", l, api.OK, empty(30, 5), api.OK)
		l = api.Log{Dev: d, First: 5, Next: 5}
		wantLog(t, "check", l, wal.Check(l), empty(30, 5), api.OK)
		wantRecords(t, "records", l, 5)
		got, num, e := wal.Append(l, b)
		wantLog(t, "append", got, e, api.Log{Dev: device(30, row(5, ""), 0), First: 5, Next: 6}, api.OK)
		if num != 5 {
			t.Error(num)
		}
		d.Down = true
		wantLog(t, "open after a crash", open(t, d, 5), api.OK, empty(30, 5), api.OK)
	}
}

// R7

func TestNoCallPanics(t *testing.T) {
	logs := []api.Log{{}, empty(30, 5), with(13, 5, "a", "bc"), with(0, api.MaxNum, "a")}
	for _, l := range badLogs() {
		logs = append(logs, l)
	}
	for _, l := range logs {
		for _, n := range append(slices.Clone(extremes), 0, 1, 5, 6, 13, api.MaxNum, api.MaxNum+1) {
			wal.Open(l.Dev, n)
			wal.Records(l, n)
			wal.Drop(l, n)
			wal.Crash(l, n)
			wal.Check(api.Log{Dev: l.Dev, First: n, Next: n})
			wal.Check(api.Log{Dev: l.Dev, First: l.First, Next: n})
			wal.Synced(api.Log{Dev: l.Dev, First: n, Next: l.Next})
			wal.Append(api.Log{Dev: l.Dev, First: n, Next: n}, nil)
			wal.Sync(api.Log{Dev: l.Dev, First: n, Next: n})
		}
	}
}
