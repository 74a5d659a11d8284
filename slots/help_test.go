package slots_test

import (
	"bytes"
	"encoding/binary"
	"hash/crc32"
	"math"
	"slices"
	"testing"

	"siding/api"
	"siding/slots"
)

// extremes are numbers that are no slots' next one, no capacity, no steps and no bytes kept.
var extremes = []int{math.MinInt, math.MinInt + 1, math.MinInt32, -1 << 32, -api.MaxNum, -2, -1, api.MaxNum + 2, math.MaxInt32, math.MaxUint32, 1 << 32, 1<<32 + 1, math.MaxInt - 1, math.MaxInt}

// encoded are the bytes of a record, made with Go's own library.
func encoded(num int, data string) []byte {
	head := binary.LittleEndian.AppendUint32(nil, uint32(len(data)))
	head = binary.LittleEndian.AppendUint32(head, uint32(num))
	sum := crc32.ChecksumIEEE(slices.Concat(head, []byte(data)))
	return append(binary.LittleEndian.AppendUint32(head, sum), data...)
}

// changed are bytes of which one is changed.
func changed(b []byte, at int) []byte {
	b = slices.Clone(b)
	b[at] ^= 1
	return b
}

func up(capacity int, b []byte) api.Device { return api.Device{Synced: b, Cap: capacity} }

func down(capacity int, b []byte) api.Device {
	return api.Device{Synced: b, Cap: capacity, Down: true}
}

// with are slots of the greatest capacity with these bytes.
func with(next int, zero, one []byte) api.Slots {
	return api.Slots{Dev: [2]api.Device{up(api.MaxDisk, zero), up(api.MaxDisk, one)}, Next: next}
}

// empty are slots without bytes.
func empty(capacity, next int) api.Slots {
	return api.Slots{Dev: [2]api.Device{up(capacity, nil), up(capacity, nil)}, Next: next}
}

// text has n bytes, that differ from their neighbours.
func text(n int) string {
	b := make([]byte, n)
	for i := range b {
		b[i] = byte(i*37 + i/256 + 1)
	}
	return string(b)
}

// crashed are slots whose devices are down.
func crashed(s api.Slots) api.Slots {
	for i := range s.Dev {
		s.Dev[i].Down = true
	}
	return s
}

// kept is the checkpoint with which a device's bytes begin, read without the lower layers.
func kept(b []byte, slot int) (int, string, bool) {
	if len(b) < 12 {
		return 0, "", false
	}
	length, num := int(binary.LittleEndian.Uint32(b)), int(binary.LittleEndian.Uint32(b[4:]))
	if length > api.MaxData || num > api.MaxNum || num&1 != slot || len(b) < 12+length {
		return 0, "", false
	}
	data := string(b[12 : 12+length])
	return num, data, bytes.HasPrefix(b, encoded(num, data))
}

// newest is what loading slots has to return, whose devices have no tails.
func newest(s api.Slots) (int, string, api.Errno) {
	zero, zeroData, ok0 := kept(s.Dev[0].Synced, 0)
	one, oneData, ok1 := kept(s.Dev[1].Synced, 1)
	switch {
	case ok0 && (!ok1 || zero > one):
		return zero, zeroData, api.OK
	case ok1:
		return one, oneData, api.OK
	}
	return 0, "", api.ErrNone
}

// opened is what opening slots has to return, whose devices have no tails.
func opened(s api.Slots) api.Slots {
	for i := range s.Dev {
		s.Dev[i].Down = false
	}
	s.Next = 1
	if num, _, e := newest(s); e == api.OK {
		s.Next = num + 1
	}
	return s
}

func sameDevice(a, b api.Device) bool {
	return bytes.Equal(a.Synced, b.Synced) && bytes.Equal(a.Tail, b.Tail) && a.Cap == b.Cap && a.Down == b.Down
}

func same(a, b api.Slots) bool {
	return sameDevice(a.Dev[0], b.Dev[0]) && sameDevice(a.Dev[1], b.Dev[1]) && a.Next == b.Next
}

// want fails unless a call returned these slots and this error.
func want(t *testing.T, what string, got api.Slots, e api.Errno, s api.Slots, err api.Errno) {
	t.Helper()
	if e != err || !same(got, s) {
		t.Errorf("%s: got %v, %d, want %v, %d", what, got, e, s, err)
	}
}

// wantLoad fails unless slots load this.
func wantLoad(t *testing.T, what string, s api.Slots, num int, data string, err api.Errno) {
	t.Helper()
	n, b, e := slots.Load(s)
	if n != num || string(b) != data || e != err {
		t.Errorf("%s: got %d, %q, %d, want %d, %q, %d", what, n, b, e, num, data, err)
	}
}

func made(t *testing.T, capacity int) api.Slots {
	t.Helper()
	s, e := slots.New(capacity)
	if e != api.OK {
		t.Fatal("new", capacity, e)
	}
	return s
}

func saved(t *testing.T, s api.Slots, data string) api.Slots {
	t.Helper()
	got, num, e := slots.Save(s, []byte(data))
	if e != api.OK || num != s.Next {
		t.Fatal("save", num, e)
	}
	return got
}

func halved(t *testing.T, s api.Slots, data string, steps, keep int) api.Slots {
	t.Helper()
	s, e := slots.Half(s, []byte(data), steps, keep)
	if e != api.OK {
		t.Fatal("half", steps, keep, e)
	}
	return s
}

func open(t *testing.T, s api.Slots) api.Slots {
	t.Helper()
	s, e := slots.Open(s)
	if e != api.OK {
		t.Fatal("open", e)
	}
	return s
}
