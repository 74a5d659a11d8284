package disk_test

import (
	"bytes"
	"math/rand/v2"
	"slices"
	"strings"
	"testing"

	"siding/api"
	"siding/disk"
)

// model is a device written another way: all bytes in one string, and how many of them are synced.
type model struct {
	all    string
	synced int
	cap    int
	down   bool
}

func (m model) device() api.Device {
	return api.Device{Synced: []byte(m.all[:m.synced]), Tail: []byte(m.all[m.synced:]), Cap: m.cap, Down: m.down}
}

func (m model) fails(o api.DiskOp) api.Errno {
	size, most := len(m.all), map[uint8]int{api.DiskTruncate: len(m.all), api.DiskDrop: m.synced, api.DiskCrash: len(m.all) - m.synced}
	limit, numbered := most[o.Kind]
	switch {
	case o.Kind < api.DiskAppend || o.Kind > api.DiskStart,
		len(o.Data) > 0 && o.Kind != api.DiskAppend,
		o.N != 0 && !numbered:
		return api.ErrArg
	case m.down && o.Kind != api.DiskStart:
		return api.ErrCrash
	case !m.down && o.Kind == api.DiskStart:
		return api.ErrState
	case o.Kind == api.DiskAppend && size+len(o.Data) > m.cap:
		return api.ErrFull
	case numbered && (o.N < 0 || o.N > limit):
		return api.ErrArg
	}
	return api.OK
}

func (m model) after(o api.DiskOp) (model, api.Errno) {
	if e := m.fails(o); e != api.OK {
		return m, e
	}
	switch o.Kind {
	case api.DiskAppend:
		m.all += string(o.Data)
	case api.DiskSync:
		m.synced = len(m.all)
	case api.DiskTruncate:
		m.all = m.all[:o.N]
		m.synced = min(m.synced, o.N)
	case api.DiskDrop:
		m.all = m.all[o.N:]
		m.synced -= o.N
	case api.DiskCrash:
		m.synced += o.N
		m.all = m.all[:m.synced]
		m.down = true
	case api.DiskStart:
		m.down = false
	}
	return m, api.OK
}

// smallModels are all devices of at most 4 bytes with these contents.
func smallModels() []model {
	var l []model
	for capacity := range 5 {
		for size := range capacity + 1 {
			for synced := range size + 1 {
				l = append(l, model{all: "abcd"[:size], synced: synced, cap: capacity})
			}
			l = append(l, model{all: "abcd"[:size], synced: size, cap: capacity, down: true})
		}
	}
	return l
}

func upModels() []model {
	return slices.DeleteFunc(smallModels(), func(m model) bool { return m.down })
}

// smallOps are operations of all kinds, and of two that are none.
func smallOps() []api.DiskOp {
	var l []api.DiskOp
	for kind := range uint8(8) {
		for n := -1; n <= 5; n++ {
			for size := range 6 {
				l = append(l, api.DiskOp{Kind: kind, N: n, Data: []byte("vwxyz"[:size])})
			}
		}
	}
	return l
}

// direct does an operation by the function for it.
func direct(d api.Device, o api.DiskOp) (api.Device, api.Errno) {
	switch o.Kind {
	case api.DiskAppend:
		return disk.Append(d, o.Data)
	case api.DiskSync:
		return disk.Sync(d)
	case api.DiskTruncate:
		return disk.Truncate(d, o.N)
	case api.DiskDrop:
		return disk.Drop(d, o.N)
	case api.DiskCrash:
		return disk.Crash(d, o.N)
	case api.DiskStart:
		return disk.Start(d)
	}
	return api.Device{}, api.ErrArg
}

func TestEveryOperationOnEverySmallDevice(t *testing.T) {
	for _, m := range smallModels() {
		for _, o := range smallOps() {
			next, we := m.after(o)
			done := 0
			if we == api.OK {
				done = 1
			}
			wantRun(t, "run", m.device(), []api.DiskOp{o}, next.device(), done, we)
			if fits := o.Kind == api.DiskAppend || len(o.Data) == 0; !fits || o.Kind == 0 || o.Kind == 7 {
				continue
			}
			if takesNumber := o.Kind >= api.DiskTruncate && o.Kind <= api.DiskCrash; o.N != 0 && !takesNumber {
				continue
			}
			result := next.device()
			if we != api.OK {
				result = api.Device{}
			}
			got, e := direct(m.device(), o)
			want(t, "direct", got, e, result, we)
		}
	}
}

// randomOp makes errors rare, so that scripts get long.
func randomOp(r *rand.Rand, m model) api.DiskOp {
	if r.IntN(40) == 0 {
		return api.DiskOp{Kind: uint8(r.IntN(9)), N: r.IntN(5) - 1, Data: []byte(strings.Repeat("z", r.IntN(2)))}
	}
	if m.down {
		return op(api.DiskStart, 0)
	}
	switch kind := []uint8{1, 1, 1, 2, 3, 4, 5}[r.IntN(7)]; kind {
	case api.DiskAppend:
		return appendOp(strings.Repeat(string(rune('a'+r.IntN(26))), r.IntN(12)))
	case api.DiskTruncate:
		return op(kind, max(0, len(m.all)-r.IntN(6)))
	case api.DiskDrop:
		return op(kind, r.IntN(m.synced+1))
	case api.DiskCrash:
		return op(kind, r.IntN(len(m.all)-m.synced+1))
	default:
		return op(kind, 0)
	}
}

func TestRandomScripts(t *testing.T) {
	for seed := range uint64(300) {
		r := rand.New(rand.NewPCG(seed, 1))
		m := model{cap: 20 + r.IntN(80)}
		start, l, we := m.device(), []api.DiskOp(nil), api.OK
		for we == api.OK && len(l) < api.MaxScript {
			o := randomOp(r, m)
			l = append(l, o)
			m, we = m.after(o)
		}
		done := len(l)
		if we != api.OK {
			done--
		}
		wantRun(t, "script", start, l, m.device(), done, we)
	}
}

// P1.6

func TestSyncedBytesStay(t *testing.T) {
	for _, m := range upModels() {
		d := m.device()
		more, e := disk.Append(d, make([]byte, m.cap-len(m.all)))
		if e != api.OK {
			t.Fatal(e)
		}
		for keep := range len(more.Tail) + 1 {
			down, e := disk.Crash(more, keep)
			if e != api.OK || !bytes.HasPrefix(down.Synced, d.Synced) {
				t.Error(d, keep, down, e)
			}
			up, e := disk.Start(down)
			if e != api.OK || !bytes.HasPrefix(up.Synced, d.Synced) {
				t.Error(d, keep, up, e)
			}
		}
	}
}

func TestACrashLeavesTheFirstBytes(t *testing.T) {
	for _, m := range upModels() {
		d := m.device()
		for keep := range len(d.Tail) + 1 {
			down, e := disk.Crash(d, keep)
			if e != api.OK || string(down.Synced)+string(down.Tail) != m.all[:m.synced+keep] || disk.Check(down) != api.OK {
				t.Error(d, keep, down, e)
			}
		}
	}
}

func TestACrashAfterASyncLosesNothing(t *testing.T) {
	for _, m := range upModels() {
		d, e := disk.Sync(m.device())
		if e != api.OK {
			t.Fatal(e)
		}
		d, n, e := disk.Run(d, []api.DiskOp{op(api.DiskCrash, 0), op(api.DiskStart, 0)})
		if n != 2 || e != api.OK || string(d.Synced) != m.all || len(d.Tail) != 0 {
			t.Error(m, d, n, e)
		}
	}
}

func TestAnErrorChangesNothing(t *testing.T) {
	for _, m := range smallModels() {
		for _, o := range smallOps() {
			if m.fails(o) == api.OK {
				continue
			}
			before := m.device()
			got, n, e := disk.Run(before, []api.DiskOp{o})
			if n != 0 || e == api.OK || !same(got, m.device()) || !same(before, m.device()) {
				t.Error(m, o, got, n, e)
			}
		}
	}
}

func TestWhatIsReadIsWhatWasAppended(t *testing.T) {
	all := filled(1000)
	d, _ := disk.New(1000)
	for at := 0; at < len(all); {
		n := min(1+at%37, len(all)-at)
		next, e := disk.Append(d, all[at:at+n])
		if e != api.OK {
			t.Fatal(e)
		}
		if at += n; at%2 == 0 {
			next, _ = disk.Sync(next)
		}
		d = next
	}
	b, e := disk.Read(d, 0, len(all))
	if e != api.OK || !bytes.Equal(b, all) {
		t.Error(len(b), e)
	}
}
