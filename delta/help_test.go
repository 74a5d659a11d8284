package delta_test

import (
	"bytes"
	"cmp"
	"encoding/binary"
	"fmt"
	"math"
	"slices"
	"strings"
	"testing"

	"siding/api"
	"siding/delta"
)

// parts is a list of parts, whether it is a delta or not.
type parts = []api.DeltaPart

// extremes are numbers that neither At nor N may be, among them those whose lowest bits are those of one.
var extremes = []int{math.MinInt, math.MinInt + 1, math.MinInt32, -1 << 32, -1<<32 + 1, -2000, -256, -3, -2, -1, 2001, 2002, 4000, 1 << 16, 1<<16 + 1, math.MaxInt32, math.MaxUint32, 1 << 32, 1<<32 + 1, 1<<32 + 2000, math.MaxInt - 1, math.MaxInt}

// bases are numbers of bytes, whether a base can have so many or not.
var bases = []int{math.MinInt, math.MinInt + 1, -4001, -1, 0, 1, 2, 299, 300, 301, 1999, 2000, 2001, 3999, 4000, 4001, math.MaxInt32, math.MaxInt}

func copied(at, n int) api.DeltaPart { return api.DeltaPart{At: at, N: n} }

func inserted(s string) api.DeltaPart { return api.DeltaPart{Data: []byte(s)} }

// text has n bytes, that differ from their neighbours.
func text(n int) string {
	var b strings.Builder
	for i := range n {
		b.WriteByte(byte(i*37 + i/256 + 1))
	}
	return b.String()
}

// number, data and list are the bytes of values, made with Go's own library.

func number(n int) string { return "\x01" + string(binary.AppendVarint(nil, int64(n))) }

func data(s string) string { return "\x02" + string(binary.AppendUvarint(nil, uint64(len(s)))) + s }

func list(elements ...string) string {
	return "\x03" + string(binary.AppendUvarint(nil, uint64(len(elements)))) + strings.Join(elements, "")
}

// encoded are the bytes of a delta, even if these are too many.
func encoded(l parts) string {
	var elements []string
	for _, p := range l {
		if len(p.Data) > 0 {
			elements = append(elements, data(string(p.Data)))
		} else {
			elements = append(elements, list(number(p.At), number(p.N)))
		}
	}
	return list(elements...)
}

// isDelta reports whether a list of parts is a delta, as the chapter's definition says.
func isDelta(l parts) bool {
	for _, p := range l {
		if n := len(p.Data); n > 0 && (n > 2000 || p.At != 0 || p.N != 0) || n == 0 && (p.At < 0 || p.At > 2000 || p.N < 1 || p.N > 2000) {
			return false
		}
	}
	return len(l) <= 200
}

// parsed is the delta with some bytes, read in a way of its own.
func parsed(b string) (parts, bool) {
	rest := []byte(b)
	kind := func() byte {
		if len(rest) == 0 {
			return 0
		}
		k := rest[0]
		rest = rest[1:]
		return k
	}
	whole := func() int {
		n, used := binary.Uvarint(rest)
		if used <= 0 || n > 3000 {
			return -1
		}
		rest = rest[used:]
		return int(n)
	}
	signed := func() int {
		if kind() != 1 {
			return -1
		}
		n, used := binary.Varint(rest)
		if used <= 0 || n < 0 || n > 2000 {
			return -1
		}
		rest = rest[used:]
		return int(n)
	}
	if kind() != 3 {
		return nil, false
	}
	l := parts{}
	for range whole() {
		switch kind() {
		case 2:
			n := whole()
			if n < 0 || n > len(rest) {
				return nil, false
			}
			l = append(l, inserted(string(rest[:n])))
			rest = rest[n:]
		case 3:
			if whole() != 2 {
				return nil, false
			}
			at := signed()
			l = append(l, copied(at, signed()))
		default:
			return nil, false
		}
	}
	return l, isDelta(l) && len(rest) == 0 && encoded(l) == b && len(b) <= 3000
}

// costOf is the cost of a delta.
func costOf(l parts) int {
	cost := 0
	for _, p := range l {
		cost += 1 + len(p.Data)
		if len(p.Data) == 0 {
			cost += 2
		}
	}
	return cost
}

// need is how many bytes a base has at least, if a delta fits it.
func need(l parts) int {
	most := 0
	for _, p := range l {
		most = max(most, p.At+p.N)
	}
	return most
}

// applied is what a delta makes of a base that it fits.
func applied(base string, l parts) string {
	var b strings.Builder
	for _, p := range l {
		for i := range p.N {
			b.WriteByte(base[p.At+i])
		}
		b.Write(p.Data)
	}
	return b.String()
}

// order is how two parts are ordered in least deltas.
func order(a, b api.DeltaPart) int {
	kind := func(p api.DeltaPart) int { return min(len(p.Data), 1) }
	return cmp.Or(
		cmp.Compare(kind(a), kind(b)),
		cmp.Compare(b.N, a.N),
		cmp.Compare(a.At, b.At),
		cmp.Compare(len(a.Data), len(b.Data)),
	)
}

// less reports whether a delta costs less than another one, or just as much, and goes before it.
func less(a, b parts) bool {
	return cmp.Or(cmp.Compare(costOf(a), costOf(b)), slices.CompareFunc(a, b, order)) < 0
}

func clone(l parts) parts {
	var c parts
	for _, p := range l {
		c = append(c, api.DeltaPart{At: p.At, N: p.N, Data: bytes.Clone(p.Data)})
	}
	return c
}

func same(a, b parts) bool {
	return slices.EqualFunc(a, b, func(p, q api.DeltaPart) bool {
		return p.At == q.At && p.N == q.N && bytes.Equal(p.Data, q.Data)
	})
}

// brief is what something looks like, cut off after a while, because deltas may have thousands of bytes.
func brief(x any) string {
	s := fmt.Sprintf("%+q", fmt.Sprint(x))
	if l, ok := x.(parts); ok {
		s = "["
		for _, p := range l {
			if len(p.Data) > 0 {
				s += fmt.Sprintf(" insert %+q", p.Data)
			}
			if p.At != 0 || p.N != 0 || len(p.Data) == 0 {
				s += fmt.Sprintf(" copy %d, %d", p.At, p.N)
			}
		}
		s += " ]"
	}
	return s[:min(len(s), 300)]
}

func wantCheck(t *testing.T, what string, l parts, base int, err api.Errno) {
	t.Helper()
	if e := delta.Check(l, base); e != err {
		t.Errorf("%s: check %s, a base of %d: %d, want %d", what, brief(l), base, e, err)
	}
}

func wantCost(t *testing.T, what string, l parts, cost int, err api.Errno) {
	t.Helper()
	if got, e := delta.Cost(l); got != cost || e != err {
		t.Errorf("%s: cost %s: %d %d, want %d %d", what, brief(l), got, e, cost, err)
	}
}

func wantApply(t *testing.T, what, base string, l parts, target string, err api.Errno) {
	t.Helper()
	if got, e := delta.Apply([]byte(base), l); string(got) != target || e != err {
		t.Errorf("%s: apply %s to %s: %s %d, want %s %d", what, brief(l), brief(base), brief(string(got)), e, brief(target), err)
	}
}

func wantEncode(t *testing.T, what string, l parts, b string, err api.Errno) {
	t.Helper()
	if got, e := delta.Encode(l); string(got) != b || e != err {
		t.Errorf("%s: encode %s: %s %d, want %s %d", what, brief(l), brief(string(got)), e, brief(b), err)
	}
}

func wantDecode(t *testing.T, what, b string, l parts, err api.Errno) {
	t.Helper()
	if got, e := delta.Decode([]byte(b)); !same(got, l) || e != err {
		t.Errorf("%s: decode %s: %s %d, want %s %d", what, brief(b), brief(got), e, brief(l), err)
	}
}

func wantForm(t *testing.T, what, b string) {
	t.Helper()
	wantDecode(t, what, b, nil, api.ErrForm)
}

// wantParsed fails unless Decode returns what is read in another way, and reports whether this is a delta.
func wantParsed(t *testing.T, what, b string) bool {
	t.Helper()
	l, ok := parsed(b)
	if ok {
		wantDecode(t, what, b, l, api.OK)
	} else {
		wantForm(t, what, b)
	}
	return ok
}

func wantMake(t *testing.T, what, base, target string, l parts) {
	t.Helper()
	if got, e := delta.Make([]byte(base), []byte(target)); !same(got, l) || e != api.OK {
		t.Errorf("%s: make %s of %s: %s %d, want %s", what, brief(target), brief(base), brief(got), e, brief(l))
	}
}

func wantNoMake(t *testing.T, what, base, target string) {
	t.Helper()
	if got, e := delta.Make([]byte(base), []byte(target)); got != nil || e != api.ErrMany {
		t.Errorf("%s: make %s of %s: %s %d", what, brief(target), brief(base), brief(got), e)
	}
}

// wantDelta fails unless a list of parts is a delta, for all functions that take one.
func wantDelta(t *testing.T, what string, l parts) {
	t.Helper()
	for _, base := range append(bases, need(l)-1, need(l), need(l)+1) {
		if base >= need(l) {
			wantCheck(t, what, l, base, api.OK)
		} else if need(l) > 0 {
			wantCheck(t, what, l, base, api.ErrRange)
		}
	}
	wantCost(t, what, l, costOf(l), api.OK)
	if need(l) > 0 && need(l) <= 2001 {
		wantApply(t, what, text(need(l)-1), l, "", api.ErrRange)
	}
	if need(l) <= 2000 {
		base := text(need(l))
		if target := applied(base, l); len(target) <= 2000 {
			wantApply(t, what, base, l, target, api.OK)
		} else {
			wantApply(t, what, base, l, "", api.ErrMany)
		}
	} else {
		wantApply(t, what, text(2000), l, "", api.ErrRange)
	}
	if b := encoded(l); len(b) <= 3000 {
		wantEncode(t, what, l, b, api.OK)
		wantDecode(t, what, b, l, api.OK)
	} else {
		wantEncode(t, what, l, "", api.ErrMany)
		wantForm(t, what, b)
	}
}

// wantNone fails unless a list of parts has this error for all functions that take a delta, whatever else they are given.
func wantNone(t *testing.T, what string, l parts, err api.Errno) {
	t.Helper()
	for _, base := range bases {
		wantCheck(t, what, l, base, err)
	}
	wantCost(t, what, l, 0, err)
	for _, base := range []int{0, 1, 1999, 2000} {
		wantApply(t, what, text(base), l, "", err)
	}
	wantApply(t, what+", and a base that is too long", text(2001), l, "", api.ErrMany)
	wantEncode(t, what, l, "", err)
}
