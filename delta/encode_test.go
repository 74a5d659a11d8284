package delta_test

import (
	"bytes"
	"math"
	"math/rand/v2"
	"slices"
	"strings"
	"testing"

	"siding/api"
	"siding/delta"
)

// P11.4

func TestEncode(t *testing.T) {
	for _, c := range []struct {
		l parts
		b string
	}{
		{nil, "\x03\x00"},
		{parts{copied(0, 1)}, "\x03\x01\x03\x02\x01\x00\x01\x02"},
		{parts{copied(3, 4)}, "\x03\x01\x03\x02\x01\x06\x01\x08"},
		{parts{copied(63, 64)}, "\x03\x01\x03\x02\x01\x7e\x01\x80\x01"},
		{parts{copied(2000, 1999)}, "\x03\x01\x03\x02\x01\xa0\x1f\x01\x9e\x1f"},
		{parts{inserted("a")}, "\x03\x01\x02\x01a"},
		{parts{inserted("ab")}, "\x03\x01\x02\x02ab"},
		{parts{inserted("\x00\xff")}, "\x03\x01\x02\x02\x00\xff"},
		{parts{copied(0, 3), inserted("x"), copied(3, 3)}, "\x03\x03\x03\x02\x01\x00\x01\x06\x02\x01x\x03\x02\x01\x06\x01\x06"},
		{parts{inserted("a"), inserted("b")}, "\x03\x02\x02\x01a\x02\x01b"},
		{slices.Repeat(parts{inserted("a")}, 200), "\x03\xc8\x01" + strings.Repeat("\x02\x01a", 200)},
		{parts{inserted(strings.Repeat("a", 2000))}, "\x03\x01\x02\xd0\x0f" + strings.Repeat("a", 2000)},
	} {
		wantEncode(t, "literal", c.l, c.b, api.OK)
		wantDecode(t, "literal", c.b, c.l, api.OK)
	}
}

// All copies with an At and an N that have codes of one byte, or of two.
func TestEncodeCopies(t *testing.T) {
	for n := 1; n <= 2000; n++ {
		for _, at := range []int{0, 1, 63, 64, 127, 128, 1999, 2000, 2000 - n, n} {
			l := parts{copied(at, n)}
			wantEncode(t, "a copy", l, encoded(l), api.OK)
			wantDecode(t, "a copy", encoded(l), l, api.OK)
		}
		l := parts{inserted(text(n))}
		wantEncode(t, "an insert", l, encoded(l), api.OK)
		wantDecode(t, "an insert", encoded(l), l, api.OK)
	}
}

// Deltas of 3,000 bytes, and of one more: these have no bytes that Decode takes.
func TestBytesOfADelta(t *testing.T) {
	for _, l := range []parts{
		{inserted(text(2000)), inserted(text(992))},
		{inserted(text(992)), inserted(text(2000))},
		{inserted(text(1495)), copied(5, 3), inserted(text(1491))},
		append(slices.Repeat(parts{inserted(text(12))}, 199), inserted(text(208))),
		append(parts{inserted(text(1402))}, slices.Repeat(parts{copied(2000, 2000)}, 199)...),
	} {
		if n := len(encoded(l)); n != 3000 {
			t.Fatal(n, brief(l))
		}
		wantDelta(t, "3000", l)
		for at := range l {
			more := clone(l)
			if len(more[at].Data) == 0 {
				if more[at].N = 64; more[at].At == 2000 {
					more[at] = inserted(text(7))
				}
			} else if more[at].Data = append(more[at].Data, 'x'); len(more[at].Data) > 2000 {
				continue
			}
			if n := len(encoded(more)); n != 3001 {
				t.Fatal(n, brief(more))
			}
			wantDelta(t, "3001", more)
			wantEncode(t, "3001", more, "", api.ErrMany)
			wantForm(t, "3001", encoded(more))
		}
	}
	wantEncode(t, "very many", slices.Repeat(parts{inserted(text(2000))}, 200), "", api.ErrMany)
	wantForm(t, "very many", encoded(slices.Repeat(parts{inserted(text(2000))}, 200)))
}

// Too many parts and parts that are none come before too many bytes.
func TestErrorsOfEncode(t *testing.T) {
	long := slices.Repeat(parts{inserted(text(2000))}, 3)
	wantEncode(t, "long", long, "", api.ErrMany)
	for what, p := range badParts() {
		wantEncode(t, what, append(clone(long), p), "", api.ErrBad)
		wantEncode(t, what, append(parts{p}, long...), "", api.ErrBad)
	}
	wantEncode(t, "too many parts", make(parts, 201), "", api.ErrMany)
	wantEncode(t, "200 that are none", make(parts, 200), "", api.ErrBad)
}

// badBytes are those of no delta.
func badBytes() map[string]string {
	part := list(number(0), number(1))
	within := func(lists int, s string) string {
		for range lists {
			s = list(s)
		}
		return s
	}
	all := map[string]string{
		"no bytes":                          "",
		"a zero":                            "\x00",
		"a kind of its own":                 "\x04\x00",
		"a list that is cut off":            "\x03",
		"a count without parts":             "\x03\x01",
		"a great count":                     "\x03\xff\xff\xff\xff\xff\xff\xff\xff\xff\x01",
		"a number":                          number(0),
		"a greater number":                  number(5),
		"bytes":                             data("a"),
		"bytes of no bytes":                 data(""),
		"bytes of a delta":                  data(list(part)),
		"a part without its list":           part + "\x00",
		"a delta in a list":                 list(list(part)),
		"two deltas":                        list(part) + list(part),
		"a delta and a number":              list(part) + number(0),
		"a part that is a number":           list(number(0)),
		"a part that is another number":     list(number(7)),
		"parts that are At and N":           list(number(0), number(1)),
		"a number behind a part":            list(part, number(0)),
		"a number before a part":            list(number(0), part),
		"a list of no numbers":              list(list()),
		"a list of one number":              list(list(number(1))),
		"a list of three numbers":           list(list(number(0), number(1), number(0))),
		"a list of three numbers of one":    list(list(number(1), number(1), number(1))),
		"a list of four numbers":            list(list(number(0), number(1), number(0), number(1))),
		"a list of an At and bytes":         list(list(number(1), data(""))),
		"a list of bytes and an N":          list(list(data(""), number(1))),
		"a list of bytes, longer, and an N": list(list(data("a"), number(1))),
		"a list of an At and longer bytes":  list(list(number(0), data("a"))),
		"a list of bytes":                   list(list(data("a"))),
		"a list of bytes twice":             list(list(data("a"), data("b"))),
		"a list of a list and an N":         list(list(list(), number(1))),
		"a list of an At and a list":        list(list(number(1), list())),
		"a list of an At in a list":         list(list(list(number(0)), number(1))),
		"a list of an N in a list":          list(list(number(0), list(number(1)))),
		"a part with an insert":             list(list(number(0), number(1), data("a"))),
		"a part with an insert before":      list(list(data("a"), number(0), number(1))),
		"a part with no bytes":              list(list(number(0), number(1), data(""))),
		"an insert of no bytes":             list(data("")),
		"an insert of no bytes behind":      list(data("a"), data("")),
		"an insert of no bytes before":      list(data(""), part),
		"an insert that is too long":        list(data(text(2001))),
		"an insert that is much too long":   list(data(text(2990))),
		"an insert of too many bytes":       list(data(text(2996))),
		"an insert in a list":               list(list(data("abc"))),
		"a copy in two lists":               within(2, part),
		"a copy in three lists":             within(3, part),
		"a copy in four lists":              within(4, part),
		"a copy that is too deep":           within(5, part),
		"an empty copy":                     list(list(number(0), number(0))),
		"a count in two bytes":              "\x03\x81\x00\x02\x01a",
		"no parts, in two bytes":            "\x03\x80\x00",
		"a count of numbers in two bytes":   "\x03\x01\x03\x82\x00\x01\x00\x01\x02",
		"an At in two bytes":                "\x03\x01\x03\x02\x01\x80\x00\x01\x02",
		"an N in two bytes":                 "\x03\x01\x03\x02\x01\x00\x01\x82\x00",
		"a length in two bytes":             "\x03\x01\x02\x81\x00a",
		"a count that is too great":         "\x03\x02\x02\x01a",
		"a count that is too small":         "\x03\x01\x02\x01a\x02\x01b",
		"a length that is too great":        "\x03\x01\x02\x02a",
		"a length that is too small":        "\x03\x01\x02\x01ab",
	}
	for _, n := range append([]int{math.MinInt64, math.MaxInt64 - 2000}, extremes...) {
		all["the At "+number(n)] = list(list(number(n), number(1)))
		all["the N "+number(n)] = list(list(number(0), number(n)))
		all["the N behind an At "+number(n)] = list(list(number(5), number(n)))
		all["the second At "+number(n)] = list(part, list(number(n), number(1)))
		all["the first N "+number(n)] = list(list(number(0), number(n)), data("a"))
		all["both "+number(n)] = list(list(number(n), number(n)))
	}
	for _, n := range []int{201, 202, 255, 256, 257, 300, 400, 456} {
		all["too many inserts "+number(n)] = list(slices.Repeat([]string{data("a")}, n)...)
		all["too many copies "+number(n)] = list(slices.Repeat([]string{part}, n)...)
	}
	return all
}

func TestBytesOfNoDelta(t *testing.T) {
	for what, b := range badBytes() {
		wantForm(t, what, b)
		wantParsed(t, what+", and a zero behind", b+"\x00")
		if _, ok := parsed(b); ok {
			t.Error(what, "is a delta")
		}
	}
	wantForm(t, "many bytes", strings.Repeat("\x03\x01\x02\x01a", 100000))
	wantForm(t, "very deep", strings.Repeat("\x03\x01", 100000))
	if b, e := delta.Decode(nil); b != nil || e != api.ErrForm {
		t.Error(b, e)
	}
}

// someDeltas have few bytes.
func someDeltas() []parts {
	return []parts{
		nil,
		{copied(0, 1)},
		{copied(100, 2000)},
		{inserted("a")},
		{inserted("\x03\x00")},
		{inserted(text(130))},
		{copied(0, 3), inserted("x"), copied(3, 3)},
		{inserted("ab"), inserted("\x01\x02"), copied(64, 63)},
		{copied(2000, 2000), copied(2000, 1), copied(0, 2000)},
	}
}

// Each byte of a delta left out, put in twice, cut off there, or changed to any other one.
func TestChangedBytes(t *testing.T) {
	for _, l := range someDeltas() {
		b := encoded(l)
		if !wantParsed(t, "not changed", b) {
			t.Error(brief(b))
		}
		for at := range b {
			wantForm(t, "cut off", b[:at])
			wantParsed(t, "cut off at the beginning", b[at+1:])
			wantParsed(t, "left out", b[:at]+b[at+1:])
			wantParsed(t, "twice", b[:at]+b[at:at+1]+b[at:])
			for c := range 256 {
				x := string([]byte{byte(c)})
				wantParsed(t, "changed", b[:at]+x+b[at+1:])
				wantParsed(t, "put in", b[:at]+x+b[at:])
			}
		}
		for c := range 256 {
			wantForm(t, "one more", b+string([]byte{byte(c)}))
		}
	}
}

// All short rows of some bytes.
func TestAllShortBytes(t *testing.T) {
	deltas := 0
	for _, c := range []struct {
		letters string
		most    int
	}{{"\x00\x01\x02\x03", 8}, {"\x00\x01\x02\x03\x04\x80", 6}, {"\x01\x02\x03\x05\x7f\x81\xff", 5}} {
		for _, b := range words(c.letters, c.most) {
			if wantParsed(t, "short", b) {
				deltas++
			}
		}
	}
	if deltas < 20 {
		t.Error(deltas)
	}
}

// randomValue has the bytes of a value that may look like a delta.
func randomValue(r *rand.Rand, depth int) string {
	switch n := r.IntN(6); {
	case n < 2:
		return number(r.IntN(4) - 1)
	case n == 2:
		return data(text(r.IntN(3)))
	case n == 3 || depth == 0:
		return list(number(r.IntN(3)), number(r.IntN(3)))
	}
	var l []string
	for range r.IntN(4) {
		l = append(l, randomValue(r, depth-1))
	}
	return list(l...)
}

func TestRandomValues(t *testing.T) {
	r := rand.New(rand.NewPCG(11, 5))
	deltas := 0
	for range 30000 {
		b := randomValue(r, 2)
		if wantParsed(t, "random", b) {
			deltas++
		}
	}
	if deltas < 1000 || deltas > 25000 {
		t.Error(deltas)
	}
}

// Encode of Decode are the bytes.
func TestEncodeOfDecode(t *testing.T) {
	r := rand.New(rand.NewPCG(11, 6))
	for range 1000 {
		l := randomDelta(r, text(1+r.IntN(2000)), 60)
		b := []byte(encoded(l))
		got, e := delta.Decode(b)
		again, err := delta.Encode(got)
		if e != api.OK || err != api.OK || !bytes.Equal(again, b) {
			t.Error(brief(l), e, err)
		}
	}
}
