package slots_test

import (
	"bytes"
	"slices"
	"testing"

	"siding/api"
	"siding/slots"
)

// memory is where arguments lie: each slice has bytes of others behind its length.
type memory struct {
	all       []byte
	next      int
	down, cut bool
}

func newMemory(next int) memory {
	return memory{
		all:  slices.Concat(encoded(2, "bc"), []byte("between"), encoded(3, "d"), []byte("behind"), []byte("data and more")),
		next: next,
	}
}

// slots are slots whose tails are empty parts of the memory, that have a capacity.
func (m memory) slots() api.Slots {
	zero := api.Device{Synced: m.all[:14], Tail: m.all[15:15], Cap: 100, Down: m.down}
	one := api.Device{Synced: m.all[21:34], Tail: m.all[35:35], Cap: 100, Down: m.down}
	if m.cut {
		zero.Synced, zero.Tail = m.all[:5], m.all[5:14]
		one.Synced, one.Tail = m.all[21:21], m.all[21:34]
	}
	return api.Slots{Dev: [2]api.Device{zero, one}, Next: m.next}
}

func (m memory) data() []byte { return m.all[40:44] }

func slotBytes(s api.Slots) [][]byte {
	return [][]byte{s.Dev[0].Synced, s.Dev[0].Tail, s.Dev[1].Synced, s.Dev[1].Tail}
}

// calls are all functions with the slices of their results.
func calls() map[string]func(m memory) [][]byte {
	all := map[string]func(m memory) [][]byte{
		"new":   func(m memory) [][]byte { s, _ := slots.New(100); return slotBytes(s) },
		"check": func(m memory) [][]byte { slots.Check(m.slots()); return nil },
		"save":  func(m memory) [][]byte { s, _, _ := slots.Save(m.slots(), m.data()); return slotBytes(s) },
		"save nothing": func(m memory) [][]byte {
			s, _, _ := slots.Save(m.slots(), m.data()[:0])
			return slotBytes(s)
		},
		"load": func(m memory) [][]byte { _, b, _ := slots.Load(m.slots()); return [][]byte{b} },
		"open": func(m memory) [][]byte { s, _ := slots.Open(m.slots()); return slotBytes(s) },
		"open what is down": func(m memory) [][]byte {
			m.down = true
			s, _ := slots.Open(m.slots())
			return slotBytes(s)
		},
		"open with tails": func(m memory) [][]byte {
			m.cut = true
			s, _ := slots.Open(m.slots())
			return slotBytes(s)
		},
		"errors": func(m memory) [][]byte {
			slots.Save(m.slots(), m.all[:cap(m.all)])
			slots.Half(m.slots(), m.data(), 4, 0)
			slots.Half(m.slots(), m.data(), 2, 17)
			m.cut = true
			slots.Save(m.slots(), m.data())
			slots.Load(m.slots())
			m.down = true
			slots.Open(m.slots())
			return nil
		},
	}
	for name, half := range halfCalls() {
		all[name] = half
	}
	return all
}

func halfCalls() map[string]func(m memory) [][]byte {
	half := func(steps, keep int) func(m memory) [][]byte {
		return func(m memory) [][]byte {
			s, _ := slots.Half(m.slots(), m.data(), steps, keep)
			return slotBytes(s)
		}
	}
	return map[string]func(m memory) [][]byte{
		"no step":                half(0, 0),
		"one step":               half(1, 0),
		"two steps, nothing":     half(2, 0),
		"two steps, some bytes":  half(2, 13),
		"two steps, all bytes":   half(2, 16),
		"three steps":            half(3, 0),
		"three steps, no result": half(3, 1),
	}
}

func scribble(b []byte) {
	b = b[:cap(b)]
	for i := range b {
		b[i] ^= 0xff
	}
}

func equal(a, b [][]byte) bool { return slices.EqualFunc(a, b, bytes.Equal) }

// R2

func TestArgumentsStay(t *testing.T) {
	for name, call := range calls() {
		for next := 1; next <= 5; next++ {
			m := newMemory(next)
			call(m)
			if !bytes.Equal(m.all, newMemory(next).all) {
				t.Error(name, next)
			}
		}
	}
}

func TestResultsShareNoMemory(t *testing.T) {
	for name, call := range calls() {
		for next := 1; next <= 5; next++ {
			m := newMemory(next)
			first, second, kept := call(m), call(m), call(newMemory(next))
			for i := range first {
				scribble(first[i])
				if !bytes.Equal(m.all, newMemory(next).all) {
					t.Error(name, next, i, "a result shares memory with an argument")
				}
				if !equal(first[i+1:], kept[i+1:]) {
					t.Error(name, next, i, "the parts of a result share memory")
				}
				if !equal(second, kept) {
					t.Error(name, next, i, "results share memory")
				}
			}
		}
	}
}

func TestResultsStayWhenArgumentsChange(t *testing.T) {
	for name, call := range calls() {
		for next := 1; next <= 5; next++ {
			m := newMemory(next)
			got, kept := call(m), call(newMemory(next))
			scribble(m.all)
			if !equal(got, kept) {
				t.Error(name, next)
			}
		}
	}
}

// Slots that go on from the same ones do not meet.
func TestTwoSlotsFromOne(t *testing.T) {
	s := saved(t, made(t, 100), "a")
	one, two := saved(t, s, "one"), saved(t, s, "two")
	wantLoad(t, "one", one, 2, "one", api.OK)
	wantLoad(t, "two", two, 2, "two", api.OK)
	wantLoad(t, "before", s, 1, "a", api.OK)
}

// R3

func TestNilAndEmptyBytesAreEqual(t *testing.T) {
	for _, b := range [][]byte{nil, {}, []byte("abc")[:0]} {
		d := api.Device{Synced: b, Tail: b, Cap: 30}
		s := api.Slots{Dev: [2]api.Device{d, d}, Next: 1}
		if e := slots.Check(s); e != api.OK {
			t.Error(e)
		}
		wantLoad(t, "load", s, 0, "", api.ErrNone)
		want(t, "open", open(t, s), api.OK, empty(30, 1), api.OK)
		want(t, "open what is down", open(t, crashed(s)), api.OK, empty(30, 1), api.OK)
		result := empty(30, 2)
		result.Dev[1].Synced = encoded(1, "")
		got, num, e := slots.Save(s, b)
		want(t, "save", got, e, result, api.OK)
		if num != 1 {
			t.Error(num)
		}
		wantLoad(t, "saved", got, 1, "", api.OK)
		for steps := range 4 {
			got, e := slots.Half(s, b, steps, 0)
			want(t, "half", got, e, after(s, "", steps, 0), api.OK)
		}
	}
}

// R7

func TestNoCallPanics(t *testing.T) {
	numbers := append([]int{0, 1, 2, 3, 4, 13, api.MaxNum, api.MaxNum + 1}, extremes...)
	all := validSlots()
	for what, s := range badSlots() {
		all[what] = s
	}
	for _, s := range all {
		for _, n := range numbers {
			slots.New(n)
			slots.Half(s, []byte("abc"), n, 0)
			slots.Half(s, []byte("abc"), 2, n)
			slots.Half(s, nil, n, n)
			other := s
			other.Next = n
			slots.Check(other)
			slots.Save(other, nil)
			slots.Load(other)
			slots.Open(other)
			slots.Half(other, nil, 3, 0)
			other.Dev[0].Cap, other.Dev[1].Cap = n, n
			slots.Save(other, []byte("abc"))
			slots.Open(other)
		}
	}
}
