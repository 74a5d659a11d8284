package journal_test

import (
	"fmt"
	"maps"
	"slices"
	"testing"

	"siding/api"
	"siding/journal"
)

// P6.1: New and Check

func TestNew(t *testing.T) {
	for _, capacity := range []int{0, 1, 21, 84, 1000, api.MaxDisk - 1, api.MaxDisk} {
		j, e := journal.New(capacity)
		want(t, "new", j, e, blank(capacity), api.OK)
		if e := journal.Check(j); e != api.OK {
			t.Error(capacity, e)
		}
	}
	for _, capacity := range append([]int{-1, -2, api.MaxDisk + 1, api.MaxDisk + 2}, extremes...) {
		j, e := journal.New(capacity)
		want(t, "new", j, e, api.Journal{}, api.ErrArg)
	}
}

// validStates are journals whose slots and logs are usual, by what they are.
func validStates() map[string]api.Journal {
	a, b, c := move(0, 5), move(1, -2), move(0, 7)
	most, least := api.MaxCell, -api.MaxCell
	return map[string]api.Journal{
		"new":                          blank(1000),
		"new, without capacity":        blank(0),
		"an operation":                 of(without(), logged(0, a), 5),
		"three operations":             of(without(), logged(0, a, b, c), 12, -2),
		"not synced":                   of(without(), unsynced(logged(0, a, b, c), 0), 12, -2),
		"one is synced":                of(without(), unsynced(logged(0, a, b, c), 21), 12, -2),
		"one is synced in part":        of(without(), unsynced(logged(0, a, b, c), 30), 12, -2),
		"a checkpoint":                 of(based(2, 5, -2), logged(2), 5, -2),
		"an operation behind it":       of(based(2, 5, -2), logged(2, c), 12, -2),
		"operations before it":         of(based(2, 5, -2), logged(0, a, b, c), 12, -2),
		"only operations before it":    of(based(2, 5, -2), logged(0, a, b), 5, -2),
		"the last one before it":       of(based(2, 5, -2), logged(1, b, c), 12, -2),
		"the one before it, no more":   of(based(2, 5, -2), logged(1, b), 5, -2),
		"no operations before it":      of(based(2, 5, -2), logged(0, "", text(api.MaxData), c), 12, -2),
		"others before it":             of(based(2, 1, 1, 1), logged(0, c, c, move(2, 1)), 1, 1, 2),
		"without operations":           of(based(0, 3), logged(0), 3),
		"the first operation":          of(based(0, 3), logged(0, a), 8),
		"all numbers":                  of(based(9, 1, -2, 3, -4, 5, -6, 7, -8), logged(9), 1, -2, 3, -4, 5, -6, 7, -8),
		"the greatest numbers":         of(based(9, most, most, most, most, most, most, most, most), logged(9), most, most, most, most, most, most, most, most),
		"the least numbers":            of(based(9, least, least, least, least, least, least, least, least), logged(9), least, least, least, least, least, least, least, least),
		"up to the greatest number":    of(based(1, most-api.MaxAdd), logged(1, move(0, api.MaxAdd)), most),
		"down to the least number":     of(based(1, 0, least+api.MaxAdd), logged(1, move(1, -api.MaxAdd)), 0, least),
		"there and back":               of(based(1, most), logged(1, move(0, -1), move(0, 1), move(0, 0)), most),
		"each number":                  of(without(), logged(0, move(0, 1), move(1, 2), move(2, 3), move(3, 4), move(4, 5), move(5, 6), move(6, 7), move(7, 8)), 1, 2, 3, 4, 5, 6, 7, 8),
		"each byte of a number":        of(without(), logged(0, move(7, 0x0a0b0c), move(6, -0x0a0b0c)), 0, 0, 0, 0, 0, 0, -0x0a0b0c, 0x0a0b0c),
		"the last record":              of(based(api.MaxNum, 4), logged(api.MaxNum, move(0, 1)), 5),
		"as many as a checkpoint says": of(based(api.MaxNum, 4), logged(api.MaxNum), 4),
		"behind all records":           of(based(api.MaxNum-1, 4), logged(api.MaxNum-1, move(0, 1), move(0, 1)), 6),
		"records before, at the end":   of(based(api.MaxNum, 4), logged(api.MaxNum-1, a, c), 11),
	}
}

// validSlots are journals with slots of all kinds, by what they are.
func validSlots() map[string]api.Journal {
	older, newer := encoded(1, point(1, 1)), encoded(2, point(2, 5, -2))
	half := func(s api.Slots) api.Journal { return of(s, logged(0, move(2, 9), move(3, 9), move(0, 7)), 12, -2) }
	tight := half(with(3, newer, older))
	tight.Slots.Dev[0].Cap, tight.Slots.Dev[1].Cap, tight.Log.Dev.Cap = pointRecord, pointRecord, 3*moveRecord
	return map[string]api.Journal{
		"two checkpoints":             half(with(3, newer, older)),
		"full":                        tight,
		"only the second one":         half(with(3, newer, nil)),
		"the older one has text":      half(with(3, newer, encoded(1, "text"))),
		"the older one is no state":   half(with(3, newer, encoded(1, point(1, api.MaxCell+1)))),
		"the older one counts more":   half(with(3, newer, encoded(1, point(api.MaxNum+1, 4)))),
		"the newer one is torn":       half(with(3, newer, encoded(3, point(3))[:83])),
		"the newer one in its slot":   half(with(3, newer, encoded(4, point(3)))),
		"foreign bytes behind":        half(with(3, slices.Concat(newer, []byte("foreign")), make([]byte, 100))),
		"another one behind":          half(with(3, slices.Concat(newer, encoded(3, point(3))), older)),
		"the number 0":                half(with(1, encoded(0, point(2, 5, -2)), nil)),
		"a greater number":            half(with(7, encoded(6, point(2, 5, -2)), older)),
		"the last number":             half(with(api.MaxNum+1, encoded(api.MaxNum, point(2, 5, -2)), older)),
		"the last number but one":     half(with(api.MaxNum, encoded(6, ""), encoded(api.MaxNum-1, point(2, 5, -2)))),
		"none, but text":              of(with(1, []byte("text"), []byte("more text")), logged(0, move(0, 7)), 7),
		"none, but in the wrong slot": of(with(1, older, newer), logged(0, move(0, 7)), 7),
		"none, but torn":              of(with(1, newer[:83], older[:12]), logged(0, move(0, 7)), 7),
	}
}

// validJournals are journals of all kinds, by what they are.
func validJournals() map[string]api.Journal {
	all := validStates()
	maps.Copy(all, validSlots())
	return all
}

// badBytes are devices whose bytes make no valid journal, whatever the numbers are.
func badBytes() map[string]api.Journal {
	a, b, c := move(0, 5), move(1, -2), move(0, 7)
	bad := map[string]api.Journal{
		"First is too great":              of(without(), logged(1, a), 5),
		"First is behind the base":        of(based(2, 5, -2), logged(3, c), 12, -2),
		"more than the greatest number":   of(based(1, api.MaxCell), logged(1, move(0, 1)), api.MaxCell+1),
		"less than the least number":      of(based(1, 0, -api.MaxCell), logged(1, move(1, -1)), 0, -api.MaxCell-1),
		"too great and back":              of(based(1, api.MaxCell), logged(1, move(0, 1), move(0, -1)), api.MaxCell),
		"too little and back":             of(based(1, -api.MaxCell), logged(1, move(0, -1), move(0, 1)), -api.MaxCell),
		"the newer one has text":          of(with(3, encoded(2, "text"), encoded(1, point(1, 5))), logged(0, a, b), 5, -2),
		"the newer one is no state":       of(with(3, encoded(2, point(1, api.MaxCell+1)), encoded(1, point(1, 5))), logged(0, a, b), 5, -2),
		"the number 0 has text":           of(with(1, encoded(0, "text"), nil), logged(0, a), 5),
		"the second one is no operation":  of(without(), logged(0, a, "b", c), 12),
		"the last one is no operation":    of(without(), logged(0, a, b, c+" "), 12, -2),
		"behind the base is no operation": of(based(1, 5), logged(0, a, "b"), 5),
	}
	for _, one := range []string{"", a[:8], a + "\x00", a + a, move(8, 1), move(255, 1), move(0, api.MaxAdd+1), move(7, -api.MaxAdd-1),
		move(0, 1<<32), move(0, 1<<56), move(0, -1<<63), move(0, 1<<63-1), text(72)} {
		bad[fmt.Sprintf("the operation %q", one)] = of(without(), logged(0, one))
	}
	points := []string{"", point(0)[:71], point(0) + "\x00", point(0)[:8], point(0) + point(0), text(api.MaxData),
		point(-1), point(api.MaxNum + 1), point(1 << 32), point(-1 << 63), point(1<<63 - 1)}
	for i := range api.MaxCells {
		for _, n := range []int{api.MaxCell + 1, -api.MaxCell - 1, 1 << 32, -1 << 63, 1<<63 - 1} {
			var cells state
			cells[i] = n
			points = append(points, point(0, cells[:]...))
		}
	}
	for _, one := range points {
		bad[fmt.Sprintf("the checkpoint %q", one)] = of(with(2, nil, encoded(1, one)), logged(0))
		bad[fmt.Sprintf("the checkpoint %q and an operation", one)] = of(with(2, nil, encoded(1, one)), logged(0, a), 5)
	}
	return bad
}

// badNumbers are journals whose numbers are not those of their devices.
func badNumbers() map[string]api.Journal {
	bad := map[string]api.Journal{"Next is before the base": of(based(2, 5, -2), logged(0, move(0, 5)), 5, -2)}
	for what, j := range validJournals() {
		for _, n := range []int{j.Slots.Next - 1, j.Slots.Next + 1, j.Slots.Next + 2, 0, api.MaxNum + 2} {
			other := j
			other.Slots.Next = n
			bad[fmt.Sprintf("%s, Next of the slots is %d", what, n)] = other
		}
		for i := range api.MaxCells {
			other := j
			other.Cells[i]++
			bad[fmt.Sprintf("%s, the number %d", what, i)] = other
		}
		first, next := j, j
		first.Log.First++
		next.Log.Next--
		bad[what+", First is greater"], bad[what+", Next is less"] = first, next
		first.Log.First, next.Log.Next = j.Log.First-1, j.Log.Next+1
		bad[what+", First is less"], bad[what+", Next is greater"] = first, next
		first.Log.Next, next.Log.First = j.Log.Next-1, j.Log.First+1
		bad[what+", both are less"], bad[what+", both are greater"] = first, next
	}
	return bad
}

// badDevices are journals of which one device is not valid, or not one of a journal that is up.
func badDevices() map[string]api.Journal {
	bad := map[string]api.Journal{}
	for what, j := range map[string]api.Journal{"new": blank(1000), "full": validSlots()["full"]} {
		for i := range 3 {
			change := func(why string, f func(d *api.Device)) {
				other := j
				f(devices(&other)[i])
				bad[fmt.Sprint(what, ", device ", i, " ", why)] = other
			}
			change("is down", func(d *api.Device) { d.Down = true })
			change("is negative", func(d *api.Device) { d.Cap = -1 })
			change("is too great", func(d *api.Device) { d.Cap = api.MaxDisk + 1 })
			change("is too full", func(d *api.Device) { d.Synced = make([]byte, d.Cap+1) })
			change("has a tail", func(d *api.Device) { d.Tail = []byte{0} })
			change("has a great tail", func(d *api.Device) { d.Tail = make([]byte, d.Cap+1) })
			change("is down with a tail", func(d *api.Device) { d.Down, d.Tail = true, []byte{0} })
		}
	}
	return bad
}

// badJournals are journals that are not valid, by the reason.
func badJournals() map[string]api.Journal {
	all := map[string]api.Journal{"the zero value": {}}
	for _, some := range []map[string]api.Journal{badBytes(), badNumbers(), badDevices()} {
		maps.Copy(all, some)
	}
	return all
}

func TestCheck(t *testing.T) {
	for what, j := range validJournals() {
		if e := journal.Check(j); e != api.OK {
			t.Error(what, e)
		}
	}
	for what, j := range badJournals() {
		if e := journal.Check(j); e != api.ErrBad {
			t.Error(what, e)
		}
	}
}

// The log may have a tail, the slots may not.
func TestCheckOfTails(t *testing.T) {
	for what, j := range validJournals() {
		for at := range len(j.Log.Dev.Synced) + len(j.Log.Dev.Tail) + 1 {
			other := synced(j)
			other.Log = unsynced(other.Log, at)
			if e := journal.Check(other); e != api.OK {
				t.Error(what, at, e)
			}
		}
		for i := range 2 {
			other := j
			d := &other.Slots.Dev[i]
			for at := range len(d.Synced) {
				d.Synced, d.Tail = j.Slots.Dev[i].Synced[:at], j.Slots.Dev[i].Synced[at:]
				if e := journal.Check(other); e != api.ErrBad {
					t.Error(what, i, at, e)
				}
			}
		}
	}
}

// One byte that is not as it was makes the log or the checkpoint another one, or none.
func TestCheckOfEachByte(t *testing.T) {
	for what, j := range validJournals() {
		for i := range 3 {
			for at := range min(len(devices(&j)[i].Synced), 200) {
				other := j
				d := devices(&other)[i]
				d.Synced = slices.Clone(d.Synced)
				d.Synced[at] ^= 1
				e := journal.Check(other)
				if ok := valid(other); ok != (e == api.OK) || e != api.OK && e != api.ErrBad {
					t.Error(what, i, at, e, ok)
				}
			}
		}
	}
}

// Do, Sync, Save and Crash return Check's error first.
func TestJournalsAreCheckedFirst(t *testing.T) {
	for what, j := range badJournals() {
		for _, n := range []int{0, 1, 2, 3, 5, -1, 8, api.MaxAdd + 1} {
			got, num, e := journal.Do(j, api.Move{Cell: n, Add: n})
			want(t, what, got, e, api.Journal{}, api.ErrBad)
			wantNumber(t, what, num, 0)
			got, e = journal.Crash(j, n, 0)
			want(t, what, got, e, api.Journal{}, api.ErrBad)
			got, e = journal.Crash(j, 3, n)
			want(t, what, got, e, api.Journal{}, api.ErrBad)
		}
		got, e := journal.Sync(j)
		want(t, what, got, e, api.Journal{}, api.ErrBad)
		got, e = journal.Save(j)
		want(t, what, got, e, api.Journal{}, api.ErrBad)
	}
}
