package codec_test

import (
	"bytes"
	"encoding/binary"
	"fmt"
	"math"
	"slices"
	"strings"
	"testing"

	"siding/api"
	"siding/codec"
)

// extremes are numbers at both ends of 64 bits and of 32 bits, and around them.
var extremes = []int64{math.MinInt64, math.MinInt64 + 1, math.MinInt32 - 1, math.MinInt32, -2, -1, 0, 1, 2, math.MaxInt32, math.MaxUint32, math.MaxUint32 + 1, math.MaxInt64 - 1, math.MaxInt64}

func number(n int64) api.Value { return api.Value{Kind: api.ValNumber, Num: n} }

func data(s string) api.Value { return api.Value{Kind: api.ValBytes, Bytes: []byte(s)} }

func list(l ...api.Value) api.Value { return api.Value{Kind: api.ValList, List: l} }

// within is a value in that many lists, each of which has nothing else.
func within(lists int, v api.Value) api.Value {
	for range lists {
		v = list(v)
	}
	return v
}

// among is a value in that many lists, between other elements.
func among(lists int, v api.Value) api.Value {
	for range lists {
		v = list(number(5), data("x"), v, number(-5))
	}
	return v
}

// many is a list that has n times the same element.
func many(n int, v api.Value) api.Value { return list(slices.Repeat([]api.Value{v}, n)...) }

// text has n bytes, that differ from their neighbours.
func text(n int) string {
	var b strings.Builder
	for i := range n {
		b.WriteByte(byte(i*37 + i/256 + 1))
	}
	return b.String()
}

// encoded are the bytes of a value, made with Go's own library.
func encoded(v api.Value) []byte {
	b := []byte{v.Kind}
	switch v.Kind {
	case 1:
		return binary.AppendVarint(b, v.Num)
	case 2:
		return append(binary.AppendUvarint(b, uint64(len(v.Bytes))), v.Bytes...)
	}
	b = binary.AppendUvarint(b, uint64(len(v.List)))
	for _, e := range v.List {
		b = append(b, encoded(e)...)
	}
	return b
}

func depth(v api.Value) int {
	most := 0
	for _, e := range v.List {
		most = max(most, depth(e))
	}
	return most + 1
}

// parsed reads a value of any depth and with codes of any length from the beginning of b.
func parsed(b []byte) (v api.Value, rest []byte, ok bool) {
	if len(b) == 0 {
		return v, nil, false
	}
	v.Kind = b[0]
	n, used := binary.Uvarint(b[1:])
	if used <= 0 {
		return v, nil, false
	}
	rest = b[1+used:]
	switch v.Kind {
	case 1:
		v.Num, _ = binary.Varint(b[1:])
		return v, rest, true
	case 2:
		if n > uint64(len(rest)) {
			return v, nil, false
		}
		v.Bytes = rest[:n]
		return v, rest[n:], true
	case 3:
		for i := uint64(0); i < n; i++ {
			var e api.Value
			if e, rest, ok = parsed(rest); !ok {
				return v, nil, false
			}
			v.List = append(v.List, e)
		}
		return v, rest, true
	}
	return v, nil, false
}

// begun is what Next has to return.
func begun(b []byte) (api.Value, int, api.Errno) {
	v, rest, ok := parsed(b)
	used := len(b) - len(rest)
	if !ok || !bytes.Equal(encoded(v), b[:used]) || used > 3000 || depth(v) > 6 {
		return api.Value{}, 0, api.ErrForm
	}
	return v, used, api.OK
}

// brief is what something looks like, cut off after a while, because values may have thousands of bytes.
func brief(x any) string {
	s := fmt.Sprint(x)
	return s[:min(len(s), 100)]
}

func same(a, b api.Value) bool {
	return a.Kind == b.Kind && a.Num == b.Num && bytes.Equal(a.Bytes, b.Bytes) && slices.EqualFunc(a.List, b.List, same)
}

// wantValid fails unless a value is valid and has these bytes, in all directions.
func wantValid(t *testing.T, what string, v api.Value, b []byte) {
	t.Helper()
	if e := codec.Check(v); e != api.OK {
		t.Error(what, "check", e)
	}
	if n, e := codec.Size(v); n != len(b) || e != api.OK {
		t.Error(what, "size", n, e, "want", len(b))
	}
	if got, e := codec.Encode(v); !bytes.Equal(got, b) || e != api.OK {
		t.Error(what, "encode", brief(got), e, "want", brief(b))
	}
	wantDecoded(t, what, b, v, len(b), api.OK)
	wantCmp(t, what, v, v, 0, api.OK)
}

// wantInvalid fails unless a value has this error, and nothing else.
func wantInvalid(t *testing.T, what string, v api.Value, err api.Errno) {
	t.Helper()
	if e := codec.Check(v); e != err {
		t.Error(what, "check", e, "want", err)
	}
	if n, e := codec.Size(v); n != 0 || e != err {
		t.Error(what, "size", n, e, "want", err)
	}
	if b, e := codec.Encode(v); b != nil || e != err {
		t.Error(what, "encode", brief(b), e, "want", err)
	}
}

// wantDecoded fails unless Next finds this value in so many of the bytes, and Decode does if these are all of them.
func wantDecoded(t *testing.T, what string, b []byte, v api.Value, used int, err api.Errno) {
	t.Helper()
	got, n, e := codec.Next(b)
	if !same(got, v) || n != used || e != err {
		t.Error(what, "next", brief(b), "got", brief(got), n, e, "want", brief(v), used, err)
	}
	if used != len(b) || err != api.OK {
		v, err = api.Value{}, api.ErrForm
	}
	if got, e := codec.Decode(b); !same(got, v) || e != err {
		t.Error(what, "decode", brief(b), "got", brief(got), e, "want", brief(v), err)
	}
}

// wantForm fails if some bytes begin with those of a value.
func wantForm(t *testing.T, what string, b []byte) {
	t.Helper()
	wantDecoded(t, what, b, api.Value{}, 0, api.ErrForm)
}

func wantCmp(t *testing.T, what string, a, b api.Value, n int, err api.Errno) {
	t.Helper()
	if got, e := codec.Cmp(a, b); got != n || e != err {
		t.Error(what, "cmp", brief(a), brief(b), "got", got, e, "want", n, err)
	}
}
