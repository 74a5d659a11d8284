package codec_test

import (
	"bytes"
	"cmp"
	"math/rand/v2"
	"slices"
	"testing"

	"siding/api"
	"siding/codec"
)

// randomValue is a valid value of at most that depth with few parts, so that many of them are close to each other.
func randomValue(r *rand.Rand, most int) api.Value {
	kind := r.IntN(3)
	if most == 1 {
		kind = r.IntN(2)
	}
	switch kind {
	case 0:
		switch r.IntN(3) {
		case 0:
			return number(int64(r.IntN(5)) - 2)
		case 1:
			return number(int64(r.IntN(400)) - 200)
		}
		return number(int64(r.Uint64() >> r.IntN(64)))
	case 1:
		b := make([]byte, r.IntN(4))
		for i := range b {
			b[i] = byte(r.IntN(3)) * 127
		}
		return data(string(b))
	}
	l := make([]api.Value, r.IntN(4))
	for i := range l {
		l[i] = randomValue(r, most-1)
	}
	return list(l...)
}

// compared is the order of values, written in another way: the first difference of what the values are made of.
func compared(a, b api.Value) int {
	if a.Kind != b.Kind {
		return cmp.Compare(a.Kind, b.Kind)
	}
	switch a.Kind {
	case 1:
		return cmp.Compare(a.Num, b.Num)
	case 2:
		return cmp.Compare(string(a.Bytes), string(b.Bytes))
	}
	for i := range min(len(a.List), len(b.List)) {
		if n := compared(a.List[i], b.List[i]); n != 0 {
			return n
		}
	}
	return cmp.Compare(len(a.List), len(b.List))
}

// P7.4

func TestRandomValues(t *testing.T) {
	r := rand.New(rand.NewPCG(7, 1))
	for range 20000 {
		v := randomValue(r, 1+r.IntN(6))
		wantValid(t, "random", v, encoded(v))
	}
}

// Different values have different bytes, none begins with those of another one, and the order agrees.
func TestPairsOfRandomValues(t *testing.T) {
	r := rand.New(rand.NewPCG(7, 2))
	var l []api.Value
	for range 400 {
		l = append(l, randomValue(r, 1+r.IntN(6)))
	}
	for _, a := range l {
		x, _ := codec.Encode(a)
		for _, b := range l {
			y, _ := codec.Encode(b)
			if bytes.HasPrefix(y, x) != same(a, b) || bytes.Equal(x, y) != same(a, b) {
				t.Error("bytes of", a, b)
			}
			wantCmp(t, "pair", a, b, compared(a, b), api.OK)
			if (compared(a, b) == 0) != same(a, b) {
				t.Error("order of", a, b)
			}
		}
	}
}

func TestWhatStandsBehindDoesNotMatter(t *testing.T) {
	r := rand.New(rand.NewPCG(7, 3))
	for range 5000 {
		v := randomValue(r, 1+r.IntN(6))
		b, _ := codec.Encode(v)
		behind := make([]byte, r.IntN(20))
		for i := range behind {
			behind[i] = byte(r.Uint32())
		}
		wantDecoded(t, "behind", slices.Concat(b, behind), v, len(b), api.OK)
	}
}

// A row of values is read one after the other.
func TestRowOfValues(t *testing.T) {
	r := rand.New(rand.NewPCG(7, 4))
	var l []api.Value
	var b []byte
	for len(b) < 20000 {
		l = append(l, randomValue(r, 6))
		b = append(b, encoded(l[len(l)-1])...)
	}
	for i, v := range l {
		got, n, e := codec.Next(b)
		if !same(got, v) || e != api.OK {
			t.Fatal(i, got, e, v)
		}
		b = b[n:]
	}
	wantForm(t, "the end", b)
}

// Bytes of few kinds, all of them up to a length, and random ones.
func TestAllShortBytes(t *testing.T) {
	alphabet := []byte{0, 1, 2, 3, 4, 0x7f, 0x80, 0x81, 0xff}
	var all func(b []byte, n int)
	all = func(b []byte, n int) {
		v, used, e := begun(b)
		wantDecoded(t, "short", b, v, used, e)
		if n == 0 {
			return
		}
		for _, c := range alphabet {
			all(append(slices.Clone(b), c), n-1)
		}
	}
	all(nil, 5)
}

func TestRandomBytes(t *testing.T) {
	r := rand.New(rand.NewPCG(7, 5))
	valid := 0
	for range 100000 {
		b := make([]byte, r.IntN(40))
		for i := range b {
			b[i] = byte(r.IntN(4))
			if r.IntN(8) == 0 {
				b[i] = byte(r.Uint32())
			}
		}
		v, used, e := begun(b)
		wantDecoded(t, "random", b, v, used, e)
		if e != api.OK {
			continue
		}
		valid++
		if got, e := codec.Encode(v); !bytes.Equal(got, b[:used]) || e != api.OK {
			t.Error("encode of decode", b, v, got, e)
		}
	}
	if valid < 10000 {
		t.Error("only", valid, "of the random bytes begin with a value")
	}
}

// Bytes of values of which one is changed, added or left out.
func TestChangedBytes(t *testing.T) {
	r := rand.New(rand.NewPCG(7, 6))
	for range 30000 {
		b := encoded(randomValue(r, 6))
		at := r.IntN(len(b))
		switch r.IntN(3) {
		case 0:
			b[at] ^= 1 << r.IntN(8)
		case 1:
			b = slices.Insert(b, at, byte(r.Uint32()))
		case 2:
			b = slices.Delete(b, at, at+1)
		}
		v, used, e := begun(b)
		wantDecoded(t, "changed", b, v, used, e)
	}
}

// Examples of the chapter.
func TestExamples(t *testing.T) {
	wantValid(t, "0", number(0), []byte{1, 0})
	wantValid(t, "-1", number(-1), []byte{1, 1})
	wantValid(t, "300", number(300), []byte{1, 216, 4})
	wantValid(t, "ab", data("ab"), []byte{2, 2, 97, 98})
	wantValid(t, "list", list(number(300), data("ab")), []byte{3, 2, 1, 216, 4, 2, 2, 97, 98})
	wantForm(t, "0 in two bytes", []byte{1, 128, 0})
}
