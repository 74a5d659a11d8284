package delta_test

import (
	"bytes"
	"slices"
	"testing"

	"siding/api"
	"siding/delta"
)

// P11.1

// goodParts are parts at both ends of their ranges, and between them.
func goodParts() map[string]api.DeltaPart {
	return map[string]api.DeltaPart{
		"the least copy":                    copied(0, 1),
		"a copy":                            copied(3, 5),
		"the greatest At":                   copied(2000, 1),
		"the greatest At but one":           copied(1999, 1),
		"the greatest N":                    copied(0, 2000),
		"the greatest N but one":            copied(0, 1999),
		"both the greatest":                 copied(2000, 2000),
		"to the end of the longest base":    copied(1999, 1),
		"to the end, too":                   copied(1000, 1000),
		"one byte beyond the longest base":  copied(1000, 1001),
		"a copy with the Data of no bytes":  {At: 1, N: 2, Data: []byte{}},
		"a copy with Data of a capacity":    {At: 1, N: 2, Data: []byte("abc")[:0]},
		"the shortest insert":               inserted("a"),
		"a zero":                            inserted("\x00"),
		"bytes that are no text":            inserted("\x00\xff\x80\n\n"),
		"very many line feeds":              {Data: bytes.Repeat([]byte("\n"), 100)},
		"an insert that looks like a delta": inserted(encoded(parts{copied(0, 1)})),
		"an insert of 127 bytes":            inserted(text(127)),
		"an insert of 128 bytes":            inserted(text(128)),
		"the longest insert but one":        inserted(text(1999)),
		"the longest insert":                inserted(text(2000)),
	}
}

// badParts are neither copies nor inserts.
func badParts() map[string]api.DeltaPart {
	all := map[string]api.DeltaPart{
		"nothing":                            {},
		"nothing, and Data of no bytes":      {Data: []byte{}},
		"an At alone":                        copied(1, 0),
		"the greatest At alone":              copied(2000, 0),
		"an insert that is too long":         inserted(text(2001)),
		"an insert that is much too long":    inserted(text(10000)),
		"2^16 + 1 bytes":                     inserted(text(1<<16 + 1)),
		"an insert with an At":               {At: 1, Data: []byte("a")},
		"an insert with the greatest At":     {At: 2000, Data: []byte("a")},
		"an insert with an N":                {N: 1, Data: []byte("a")},
		"an insert with its N":               {N: 3, Data: []byte("abc")},
		"a copy with a byte":                 {At: 3, N: 1, Data: []byte("a")},
		"a copy with a zero":                 {At: 3, N: 1, Data: []byte{0}},
		"the greatest copy with Data":        {At: 2000, N: 2000, Data: []byte(text(2000))},
		"the greatest N with Data":           {N: 2000, Data: []byte("a")},
		"an insert that is too long, at 1":   {At: 1, Data: []byte(text(2001))},
		"a copy with Data that are too long": {N: 1, Data: []byte(text(2001))},
		"an At and an N that cancel out":     copied(-1, 1),
		"another At and N that cancel out":   {At: -5, N: 5},
		"an N and an At that cancel out":     copied(1, -1),
		"At and N that overflow":             copied(2000, 1<<63-2000),
		"an insert that overflows":           {At: 1 << 62, N: 1 << 62, Data: []byte("a")},
	}
	for _, n := range extremes {
		all["At, with the least N: "+number(n)] = copied(n, 1)
		all["At, with the greatest N: "+number(n)] = copied(n, 2000)
		all["At, without N: "+number(n)] = copied(n, 0)
		all["N, with the least At: "+number(n)] = copied(0, n)
		all["N, with the greatest At: "+number(n)] = copied(2000, n)
		all["both: "+number(n)] = copied(n, n)
		all["At of an insert: "+number(n)] = api.DeltaPart{At: n, Data: []byte("a")}
		all["N of an insert: "+number(n)] = api.DeltaPart{N: n, Data: []byte("a")}
		all["both of an insert: "+number(n)] = api.DeltaPart{At: n, N: n, Data: []byte("a")}
	}
	return all
}

// among are lists with a part alone, and at each place among others.
func among(p api.DeltaPart) []parts {
	x, y, z := copied(0, 1), inserted("y"), copied(7, 2)
	return []parts{{p}, {p, p}, {p, x}, {x, p}, {p, y}, {y, p}, {x, p, y}, {p, x, y, z}, {z, y, x, p}, append(slices.Repeat(parts{y}, 199), p), append(parts{p}, slices.Repeat(parts{x}, 199)...)}
}

func TestParts(t *testing.T) {
	for what, p := range goodParts() {
		for _, l := range among(p) {
			wantDelta(t, what, l)
		}
	}
	for what, p := range badParts() {
		for _, l := range among(p) {
			wantNone(t, what, l, api.ErrBad)
		}
	}
}

// All copies of which At and N are near the ends of their ranges.
func TestCopies(t *testing.T) {
	near := []int{-2, -1, 0, 1, 2, 3, 1998, 1999, 2000, 2001, 2002}
	for _, at := range near {
		for _, n := range near {
			if l := (parts{copied(at, n)}); at >= 0 && at <= 2000 && n >= 1 && n <= 2000 {
				wantDelta(t, "near", l)
			} else {
				wantNone(t, "near", l, api.ErrBad)
			}
		}
	}
}

// All parts that have some of At, N and Data.
func TestMixedParts(t *testing.T) {
	for _, at := range []int{-1, 0, 1, 2000, 2001} {
		for _, n := range []int{-1, 0, 1, 2000, 2001} {
			for _, size := range []int{0, 1, 1999, 2000, 2001} {
				l := parts{{At: at, N: n, Data: []byte(text(size))}}
				if isDelta(l) {
					wantDelta(t, "mixed", l)
				} else {
					wantNone(t, "mixed", l, api.ErrBad)
				}
			}
		}
	}
}

func TestNumberOfParts(t *testing.T) {
	for _, p := range []api.DeltaPart{copied(0, 1), copied(3, 7), copied(2000, 2000), inserted("a"), inserted(text(11))} {
		for _, n := range []int{0, 1, 2, 3, 100, 198, 199, 200} {
			wantDelta(t, "not too many", slices.Repeat(parts{p}, n))
		}
		for _, n := range []int{201, 202, 255, 256, 257, 400, 456, 1 << 16} {
			wantNone(t, "too many", slices.Repeat(parts{p}, n), api.ErrMany)
		}
	}
}

// Too many parts are named before one that is none, and this one before a delta that does not fit.
func TestOrderOfErrors(t *testing.T) {
	bad := api.DeltaPart{}
	for _, n := range []int{201, 300} {
		l := slices.Repeat(parts{copied(2000, 2000)}, n)
		for _, at := range []int{0, 1, 100, 199, 200} {
			mixed := slices.Clone(l)
			mixed[at] = bad
			wantNone(t, "too many and bad", mixed, api.ErrMany)
		}
		wantNone(t, "too many and all of them bad", slices.Repeat(parts{bad}, n), api.ErrMany)
	}
	far := copied(2000, 2000)
	for _, l := range []parts{{far, bad}, {bad, far}, {far, far, inserted("a"), bad}, {far, inserted(text(2001))}, {far, copied(0, 0)}} {
		wantNone(t, "bad and far", l, api.ErrBad)
	}
}

// A copy fits just if its last byte is there, wherever it stands.
func TestFits(t *testing.T) {
	for _, at := range []int{0, 1, 2, 5, 100, 1000, 1999, 2000} {
		for _, n := range []int{1, 2, 5, 100, 1000, 1999, 2000} {
			for _, l := range among(copied(at, n)) {
				most := need(l)
				for _, base := range []int{-1, 0, at, n, most - 2, most - 1} {
					if base < most {
						wantCheck(t, "too short", l, base, api.ErrRange)
					}
				}
				for _, base := range []int{most, most + 1, 4000, 1 << 40} {
					wantCheck(t, "long enough", l, base, api.OK)
				}
			}
		}
	}
}

// The first, the last, or another one of some copies reaches farthest.
func TestFarthestCopy(t *testing.T) {
	for at := range 6 {
		l := parts{copied(3, 2), inserted("abc"), copied(0, 7), copied(6, 1), copied(1, 1), inserted("x")}
		if len(l[at].Data) > 0 {
			continue
		}
		l[at] = copied(20, 10)
		wantCheck(t, "farthest", l, 29, api.ErrRange)
		wantCheck(t, "farthest", l, 30, api.OK)
		wantApply(t, "farthest", text(29), l, "", api.ErrRange)
		wantApply(t, "farthest", text(30), l, applied(text(30), l), api.OK)
	}
}

// A delta without copies fits any number of bytes, even one that no base has.
func TestInsertsFitAnyBase(t *testing.T) {
	for _, l := range []parts{nil, {}, {inserted("a")}, {inserted(text(2000)), inserted("a")}, slices.Repeat(parts{inserted("ab")}, 200)} {
		for _, base := range bases {
			wantCheck(t, "inserts", l, base, api.OK)
		}
	}
}

// A base that is too long for Apply is not too long for Check.
func TestLongBases(t *testing.T) {
	l := parts{copied(2000, 1), inserted("a")}
	wantCheck(t, "2000", l, 2000, api.ErrRange)
	wantCheck(t, "2001", l, 2001, api.OK)
	l = parts{copied(2000, 2000)}
	wantCheck(t, "3999", l, 3999, api.ErrRange)
	wantCheck(t, "4000", l, 4000, api.OK)
}

func TestCost(t *testing.T) {
	for _, c := range []struct {
		l    parts
		cost int
	}{
		{nil, 0},
		{parts{copied(0, 1)}, 3},
		{parts{copied(5, 2000)}, 3},
		{parts{copied(2000, 2000)}, 3},
		{parts{inserted("a")}, 2},
		{parts{inserted("ab")}, 3},
		{parts{inserted("abc")}, 4},
		{parts{inserted(text(2000))}, 2001},
		{parts{inserted("a"), inserted("b")}, 4},
		{parts{copied(0, 3), inserted("x"), copied(3, 3)}, 8},
		{parts{copied(0, 3), copied(0, 3)}, 6},
		{parts{inserted("ab"), copied(2000, 1), inserted("abc")}, 10},
		{slices.Repeat(parts{copied(0, 1)}, 200), 600},
		{slices.Repeat(parts{inserted(text(2000))}, 200), 400200},
	} {
		wantCost(t, "literal", c.l, c.cost, api.OK)
	}
	for n := 1; n <= 2000; n++ {
		wantCost(t, "a copy", parts{copied(2000-n, n)}, 3, api.OK)
		wantCost(t, "an insert", parts{inserted(text(n))}, n+1, api.OK)
	}
	for n := range 201 {
		row := slices.Repeat(parts{copied(9, 9), inserted("abc"), inserted("d")}, 67)[:n]
		wantCost(t, "a row", row, costOf(row), api.OK)
	}
}

// The cost of a row is the sum of the costs of its parts.
func TestCostIsASum(t *testing.T) {
	all := goodParts()
	for what, p := range all {
		for other, q := range all {
			x, _ := delta.Cost(parts{p})
			y, _ := delta.Cost(parts{q})
			wantCost(t, what+" and "+other, parts{p, q}, x+y, api.OK)
			wantCost(t, what+" and "+other, parts{q, p, q}, x+y+y, api.OK)
		}
	}
}
