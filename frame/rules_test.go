package frame_test

import (
	"bytes"
	"slices"
	"testing"

	"siding/api"
	"siding/frame"
)

// memory is where arguments lie: each slice has bytes of others behind its length.
type memory struct {
	all     []byte
	records []api.Record
}

func newMemory() memory {
	m := memory{all: append(encodedRow(), filled(40)...)}
	data := m.all[len(encodedRow()):]
	m.records = []api.Record{{Num: 4, Data: data[:5]}, {Num: 5, Data: data[5:5]}, {Num: 6, Data: data[5:25]}, {Num: 7, Data: data[25:26]}}
	return m
}

func encodedRow() []byte {
	var b []byte
	for i := range 4 {
		b = append(b, encoded(uint32(i*3), uint32(i), filled(i*3))...)
	}
	return b
}

func (m memory) bytes() []byte { return m.all[:len(encodedRow())] }

func (m memory) same(other memory) bool {
	return bytes.Equal(m.all, other.all) && same(m.records, other.records)
}

// calls are all functions with the slices of their results.
func calls() map[string]func(m memory) [][]byte {
	return map[string]func(m memory) [][]byte{
		"size": func(m memory) [][]byte { frame.Size(m.records[0]); return nil },
		"encode": func(m memory) [][]byte {
			b, _ := frame.Encode(m.records[0])
			c, _ := frame.Encode(m.records[1])
			return [][]byte{b, c}
		},
		"all":          func(m memory) [][]byte { b, _ := frame.All(m.records[:3]); return [][]byte{b} },
		"all of one":   func(m memory) [][]byte { b, _ := frame.All(m.records[2:3]); return [][]byte{b} },
		"all of none":  func(m memory) [][]byte { b, _ := frame.All(m.records[:0]); return [][]byte{b} },
		"scan":         func(m memory) [][]byte { return found(m.bytes()) },
		"scan torn":    func(m memory) [][]byte { return found(m.bytes()[:len(m.bytes())-1]) },
		"scan of none": func(m memory) [][]byte { return found(m.bytes()[:5]) },
		"scan of more": func(m memory) [][]byte { return found(m.all) },
	}
}

func found(b []byte) [][]byte {
	var data [][]byte
	l, _, _ := frame.Scan(b)
	for _, r := range l {
		data = append(data, r.Data)
	}
	return data
}

func scribble(b []byte) {
	b = b[:cap(b)]
	for i := range b {
		b[i] ^= 0xff
	}
}

func equal(a, b [][]byte) bool {
	return slices.EqualFunc(a, b, bytes.Equal)
}

// R2

func TestArgumentsStay(t *testing.T) {
	for name, call := range calls() {
		m := newMemory()
		call(m)
		if !m.same(newMemory()) {
			t.Error(name)
		}
	}
}

func TestArgumentsStayWithAnError(t *testing.T) {
	m, big := newMemory(), filled(api.MaxDisk+9)
	bad := api.Record{Num: -1, Data: big[:3]}
	l := append(most(), bad, record(3, "c"))
	frame.Size(bad)
	frame.Encode(bad)
	frame.All(l[:21])
	frame.All(append(l[:20:20], record(1, "a")))
	frame.Scan(big[:api.MaxDisk+1])
	if !m.same(newMemory()) || !bytes.Equal(big, filled(api.MaxDisk+9)) || !same(l, append(most(), bad, record(3, "c"))) {
		t.Error("changed")
	}
}

func TestResultsShareNoMemory(t *testing.T) {
	for name, call := range calls() {
		m := newMemory()
		first, second, kept := call(m), call(m), call(newMemory())
		for i := range first {
			scribble(first[i])
			if !m.same(newMemory()) {
				t.Error(name, i, "a result shares memory with an argument")
			}
			if !equal(first[i+1:], kept[i+1:]) {
				t.Error(name, i, "the parts of a result share memory")
			}
			if !equal(second, kept) {
				t.Error(name, i, "results share memory")
			}
		}
	}
}

func TestResultsStayWhenArgumentsChange(t *testing.T) {
	for name, call := range calls() {
		m := newMemory()
		got, kept := call(m), call(newMemory())
		scribble(m.all)
		if !equal(got, kept) {
			t.Error(name)
		}
	}
}

func TestListsOfRecordsShareNoMemory(t *testing.T) {
	b := encodedRow()
	first, _, _ := frame.Scan(b)
	second, _, _ := frame.Scan(b)
	for i := range first[:cap(first)] {
		first[:cap(first)][i] = record(9, "x")
	}
	finds(t, "later", b, second, len(b))
}

func TestNothingIsKept(t *testing.T) {
	before, _, _ := frame.Scan(encodedRow())
	frame.Scan(encoded(1, 9, []byte("a")))
	frame.Scan(filled(api.MaxDisk + 1))
	frame.All(badRecords())
	finds(t, "again", encodedRow(), before, len(encodedRow()))
}

// R3

func TestNilAndEmptyBytesAreEqual(t *testing.T) {
	for _, b := range [][]byte{nil, {}, filled(9)[:0]} {
		r := api.Record{Num: 6, Data: b}
		if n, e := frame.Size(r); n != 12 || e != api.OK {
			t.Error(n, e)
		}
		if got, e := frame.Encode(r); !bytes.Equal(got, encoded(0, 6, nil)) || e != api.OK {
			t.Error(got, e)
		}
		if got := all(t, []api.Record{r, r}); !bytes.Equal(got, append(encoded(0, 6, nil), encoded(0, 6, nil)...)) {
			t.Error(got)
		}
		finds(t, "nothing", b, nil, 0)
	}
}

// R7

func TestNoCallPanics(t *testing.T) {
	for _, r := range append(badRecords(), api.Record{}, record(1, "a")) {
		frame.Size(r)
		frame.Encode(r)
		frame.All([]api.Record{r, r})
	}
	head := encoded(5, 1, []byte("abcde"))
	for i := range head {
		for _, v := range []byte{0, 1, 0x7f, 0x80, 0xff} {
			b := bytes.Clone(head)
			b[i] = v
			for size := range len(b) + 1 {
				frame.Scan(b[:size:size])
			}
		}
	}
}
