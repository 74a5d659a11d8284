package journal_test

import (
	"fmt"
	"slices"
	"testing"

	"siding/api"
	"siding/journal"
)

// P6.5

// wantRecovered fails unless recovering a journal returns what reading its devices without the lower layers says.
func wantRecovered(t *testing.T, what string, j api.Journal) {
	t.Helper()
	result, n, err := recovered(j)
	wantRecover(t, what, j, result, n, err)
	if err == api.OK && journal.Check(result) != api.OK {
		t.Error(what, "recovery gives a journal that is not valid")
	}
}

func wantRecover(t *testing.T, what string, j, result api.Journal, n int, err api.Errno) {
	t.Helper()
	got, num, e := journal.Recover(j)
	want(t, what, got, e, result, err)
	wantNumber(t, what, num, n)
}

// started is a journal after recovery without a crash.
func started(t *testing.T, what string, j api.Journal) {
	t.Helper()
	wantRecover(t, what, j, synced(j), j.Log.Next, api.OK)
}

func TestRecoverWithoutACrash(t *testing.T) {
	for what, j := range validJournals() {
		started(t, what, j)
		for at := range len(j.Log.Dev.Synced) + len(j.Log.Dev.Tail) + 1 {
			other := synced(j)
			other.Log = unsynced(other.Log, at)
			started(t, what, other)
		}
	}
}

// Only the bytes of the devices count, not the numbers of a journal.
func TestRecoverLooksAtTheDevices(t *testing.T) {
	for what, j := range validJournals() {
		result := synced(j)
		for _, n := range append([]int{-1, 0, 1, 2, 3, api.MaxNum, api.MaxNum + 1}, extremes...) {
			other := j
			other.Slots.Next, other.Log.First, other.Log.Next = n, n, -n
			for i := range other.Cells {
				other.Cells[i] = n
			}
			wantRecover(t, what, other, result, j.Log.Next, api.OK)
			other.Log.First, other.Log.Next = n, n
			wantRecover(t, what, other, result, j.Log.Next, api.OK)
		}
		for some := range 8 {
			other := result
			for i, d := range devices(&other) {
				d.Down = some>>i&1 == 1
			}
			wantRecover(t, what, other, result, j.Log.Next, api.OK)
		}
	}
}

// The slots may have tails, which recovery syncs.
func TestRecoverSyncsTheSlots(t *testing.T) {
	for what, j := range validJournals() {
		for i := range 2 {
			other := j
			d := &other.Slots.Dev[i]
			for at := range len(d.Synced) {
				d.Synced, d.Tail = j.Slots.Dev[i].Synced[:at], j.Slots.Dev[i].Synced[at:]
				wantRecover(t, fmt.Sprint(what, at), other, synced(j), j.Log.Next, api.OK)
			}
		}
	}
}

// Bytes behind the records are cut off.
func TestRecoverCutsWhatIsTorn(t *testing.T) {
	a, b, c := move(0, 5), move(1, -2), move(0, 7)
	whole := of(without(), logged(0, a, b, c), 12, -2)
	states := []state{{}, stateOf(5), stateOf(5, -2), stateOf(12, -2)}
	for size := range len(whole.Log.Dev.Synced) + 1 {
		for split := range size + 1 {
			j := whole
			j.Log.Dev.Synced, j.Log.Dev.Tail = whole.Log.Dev.Synced[:split], whole.Log.Dev.Synced[split:size]
			n := size / moveRecord
			result := of(without(), logged(0, []string{a, b, c}[:n]...), states[n][:]...)
			wantRecover(t, fmt.Sprint(size, split), j, result, n, api.OK)
		}
	}
	for _, behind := range []string{"foreign", string(encoded(4, a)), string(encoded(2, c)), string(encoded(3, a)[:20]), string(make([]byte, 30))} {
		j := whole
		j.Log.Dev.Synced = slices.Concat(j.Log.Dev.Synced, []byte(behind))
		wantRecover(t, fmt.Sprintf("%q", behind), j, whole, 3, api.OK)
	}
}

// A log that ends before the base begins anew with it.
func TestRecoverOfAnOldLog(t *testing.T) {
	a, b, c := move(0, 5), move(1, -2), move(0, 7)
	result := of(based(5, 1, 2, 3), logged(5), 1, 2, 3)
	for what, l := range map[string]api.Log{
		"none":                         logged(0),
		"one":                          logged(0, a),
		"before the last one":          logged(1, a, b, c),
		"before the last one, alone":   logged(3, a),
		"before, and no operations":    logged(0, "x", "y"),
		"torn":                         {Dev: up(api.MaxDisk, encoded(5, a)[:20])},
		"the last one before it torn":  {Dev: up(api.MaxDisk, slices.Concat(encoded(3, a), encoded(4, b)[:20]))},
		"foreign":                      {Dev: up(api.MaxDisk, []byte("foreign bytes"))},
		"too many of a journal before": logged(0, a, b),
	} {
		wantRecover(t, what, of(based(5, 1, 2, 3), l), result, 5, api.OK)
		wantRecover(t, what+", down", down(of(based(5, 1, 2, 3), l)), result, 5, api.OK)
	}
	// A log that ends just before it stays.
	for what, l := range map[string]api.Log{"all": logged(0, a, b, c, a, b), "the last one": logged(4, c), "text": logged(3, "", "text")} {
		wantRecover(t, what, of(based(5, 1, 2, 3), l), of(based(5, 1, 2, 3), l, 1, 2, 3), 5, api.OK)
	}
	// Without a checkpoint the base is 0.
	wantRecover(t, "torn", of(without(), api.Log{Dev: up(api.MaxDisk, encoded(3, a)[:20]), First: 3, Next: 3}), of(without(), logged(0)), 0, api.OK)
}

// A checkpoint that is torn, or in the wrong slot, leaves the one before.
func TestRecoverTheOlderCheckpoint(t *testing.T) {
	older, newer := encoded(1, point(1, 5)), encoded(2, point(3, 12, -2))
	l := logged(1, move(1, -2), move(0, 7))
	for size := range len(newer) {
		j := of(with(9, newer[:size], older), l)
		wantRecover(t, fmt.Sprint(size), j, of(with(2, newer[:size], older), l, 12, -2), 3, api.OK)
	}
	wantRecover(t, "the newer one", of(with(9, newer, older), l), of(with(3, newer, older), l, 12, -2), 3, api.OK)
	wantRecover(t, "the wrong slot", of(with(9, older, newer), logged(0)), of(with(1, older, newer), logged(0)), 0, api.OK)
	wantRecover(t, "behind the older one is nothing", of(with(9, nil, older), logged(3, move(0, 7))), api.Journal{}, 0, api.ErrBad)
}

func TestRecoverWhatIsNoJournal(t *testing.T) {
	for what, j := range badBytes() {
		wantRecover(t, what, j, api.Journal{}, 0, api.ErrBad)
		wantRecover(t, what+", down", down(j), api.Journal{}, 0, api.ErrBad)
	}
}

func TestRecoverOfDevicesThatAreNotValid(t *testing.T) {
	for what, j := range map[string]api.Journal{"new": blank(1000), "full": validSlots()["full"], "a crash": down(blank(1000))} {
		for i := range 3 {
			for why, change := range map[string]func(d *api.Device){
				"negative":  func(d *api.Device) { d.Cap = -1 },
				"too great": func(d *api.Device) { d.Cap = api.MaxDisk + 1 },
				"too full":  func(d *api.Device) { d.Synced = make([]byte, d.Cap+1) },
				"a tail":    func(d *api.Device) { d.Down, d.Tail = false, make([]byte, d.Cap+1) },
				"down":      func(d *api.Device) { d.Down, d.Synced, d.Tail = true, nil, []byte{0} },
			} {
				other := j
				change(devices(&other)[i])
				wantRecover(t, fmt.Sprint(what, i, why), other, api.Journal{}, 0, api.ErrBad)
			}
		}
	}
	wantRecover(t, "the zero value", api.Journal{}, blank(0), 0, api.OK)
}

// A journal whose log has operations behind MaxNum-1 recovers up to the last record.
func TestRecoverUpToTheLastRecord(t *testing.T) {
	l := logged(api.MaxNum-1, move(0, 1), move(0, 2))
	for done, cell := range map[int]int{api.MaxNum - 1: 7, api.MaxNum: 6} {
		wantRecover(t, "the last record", of(based(done, 4), l), of(based(done, 4), l, cell), api.MaxNum+1, api.OK)
	}
	wantRecover(t, "too many", of(based(api.MaxNum+1, 4), l), api.Journal{}, 0, api.ErrBad)
}

// What devices of any kind give is a valid journal, that gives itself again.
func TestRecoveryOfEachByte(t *testing.T) {
	for what, j := range validJournals() {
		for i := range 3 {
			for at := range min(len(devices(&j)[i].Synced), 200) {
				other := down(synced(j))
				d := devices(&other)[i]
				d.Synced = slices.Clone(d.Synced)
				d.Synced[at] ^= 0x10
				wantRecovered(t, fmt.Sprint(what, i, at), other)
			}
		}
	}
}
