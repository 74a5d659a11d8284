package codec_test

import (
	"slices"
	"strings"
	"testing"

	"siding/api"
)

// badBytes begin with the bytes of no value.
func badBytes() map[string]string {
	all := strings.Repeat("\xff", 9)
	return map[string]string{
		"nothing":                              "",
		"a number without its code":            "\x01",
		"bytes without a count":                "\x02",
		"a list without a count":               "\x03",
		"a number that is cut off":             "\x01\x80",
		"a long number that is cut off":        "\x01" + all,
		"a count that is cut off":              "\x02\x80",
		"a count of elements that is cut off":  "\x03\x81",
		"bytes that are missing":               "\x02\x01",
		"bytes that are cut off":               "\x02\x03ab",
		"elements that are missing":            "\x03\x01",
		"elements that are cut off":            "\x03\x02\x01\x00",
		"an element that is cut off":           "\x03\x02\x01\x00\x01",
		"bytes in a list that are cut off":     "\x03\x02\x01\x00\x02\x02a",
		"the kind 0":                           "\x00\x00",
		"the kind 4":                           "\x04\x00",
		"the kind 129":                         "\x81\x00",
		"the kind 255":                         "\xff\x00",
		"the kind 0 of an element":             "\x03\x01\x00\x00",
		"the kind 4 of an element":             "\x03\x02\x01\x00\x04\x00",
		"0 in two bytes":                       "\x01\x80\x00",
		"0 in three bytes":                     "\x01\x80\x80\x00",
		"1 in two bytes":                       "\x01\x82\x00",
		"63 in two bytes":                      "\x01\xfe\x00",
		"64 in three bytes":                    "\x01\x80\x81\x00",
		"the greatest number in 11 bytes":      "\x01\xfe" + all[1:] + "\x81\x00",
		"0 in ten bytes":                       "\x01" + strings.Repeat("\x80", 9) + "\x00",
		"0 in eleven bytes":                    "\x01" + strings.Repeat("\x80", 10) + "\x00",
		"0 in 2,000 bytes":                     "\x01" + strings.Repeat("\x80", 1998) + "\x00",
		"2^64":                                 "\x01" + strings.Repeat("\x80", 9) + "\x02",
		"2^64 + 1":                             "\x01\x81" + strings.Repeat("\x80", 8) + "\x02",
		"2^65 - 1":                             "\x01" + all + "\x03",
		"2^69":                                 "\x01" + strings.Repeat("\x80", 9) + "\x40",
		"2^70 - 1":                             "\x01" + all + "\x7f",
		"2^70":                                 "\x01" + strings.Repeat("\x80", 10) + "\x01",
		"2^133":                                "\x01" + strings.Repeat("\x80", 19) + "\x01",
		"a code without an end":                "\x01" + strings.Repeat("\x80", 2000),
		"a code of ones without an end":        "\x01" + strings.Repeat("\xff", 2000),
		"no bytes, in two bytes":               "\x02\x80\x00",
		"one byte, in two bytes":               "\x02\x81\x00a",
		"no elements, in two bytes":            "\x03\x80\x00",
		"one element, in two bytes":            "\x03\x81\x00\x01\x00",
		"a longer code in a list":              "\x03\x01\x01\x80\x00",
		"a count of 2^64 - 1 bytes":            "\x02" + all + "\x01abc",
		"a count of 2^63 bytes":                "\x02" + strings.Repeat("\x80", 9) + "\x01abc",
		"a count of 2^63 - 1 bytes":            "\x02" + all[1:] + "\x7fabc",
		"a count of 2^32 bytes":                "\x02\x80\x80\x80\x80\x10",
		"a count of 2^32 + 1 bytes":            "\x02\x81\x80\x80\x80\x10a",
		"a count of 2^64 bytes":                "\x02" + strings.Repeat("\x80", 9) + "\x02abc",
		"a count of 2^64 - 1 elements":         "\x03" + all + "\x01\x01\x00",
		"a count of 2^63 elements":             "\x03" + strings.Repeat("\x80", 9) + "\x01\x01\x00",
		"a count of 2^32 elements":             "\x03\x80\x80\x80\x80\x10",
		"a count of 2^32 + 1 elements":         "\x03\x81\x80\x80\x80\x10\x01\x00",
		"a count of 2^64 elements":             "\x03" + strings.Repeat("\x80", 9) + "\x02",
		"a number too deep":                    strings.Repeat("\x03\x01", 6) + "\x01\x00",
		"bytes too deep":                       strings.Repeat("\x03\x01", 6) + "\x02\x00",
		"a list too deep":                      strings.Repeat("\x03\x01", 6) + "\x03\x00",
		"much too deep":                        strings.Repeat("\x03\x01", 1400) + "\x03\x00",
		"too deep, without an end":             strings.Repeat("\x03\x01", 1500),
		"too deep behind others":               "\x03\x02\x01\x00" + strings.Repeat("\x03\x01", 5) + "\x01\x00",
		"too deep before others":               "\x03\x02" + strings.Repeat("\x03\x01", 5) + "\x01\x00\x01\x00",
		"one byte too many":                    "\x02\xb6\x17" + text(2998),
		"one element too many":                 "\x03\xdb\x0b" + strings.Repeat("\x01\x00", 1499),
		"too many bytes with those around":     "\x03\x01\x02\xb4\x17" + text(2996),
		"two elements, both of many bytes":     "\x03\x02\x02\xdc\x0b" + text(1500) + "\x02\xdc\x0b" + text(1500),
		"an element of too many bytes":         "\x03\x01\x02\xb6\x17" + text(2998),
		"a last element that is one byte long": "\x03\xda\x0b" + strings.Repeat("\x01\x00", 1497) + "\x01\x80\x80\x01",
	}
}

// P7.2

func TestBadBytes(t *testing.T) {
	for what, b := range badBytes() {
		wantForm(t, what, []byte(b))
	}
}

// What stands behind bytes that are too deep, too long or of a wrong form changes nothing.
func TestBadBytesWithOthersBehind(t *testing.T) {
	for what, b := range badBytes() {
		if strings.Contains(what, "missing") || strings.Contains(what, "without") || strings.Contains(what, "cut off") || strings.Contains(what, "count of") || b == "" {
			continue
		}
		for _, behind := range []string{"\x00", "\x01\x00", "\x80", strings.Repeat("\x01\x00", 2000)} {
			wantForm(t, what, []byte(b+behind))
		}
	}
}

func TestBadBytesInLists(t *testing.T) {
	for what, b := range badBytes() {
		wantForm(t, what+", in a list", []byte("\x03\x01"+b))
		wantForm(t, what+", in two lists", []byte("\x03\x02\x01\x00\x03\x01"+b))
	}
}

// The beginnings of a value are none, and what is behind it stays.
func TestCutOffAndMoreBehind(t *testing.T) {
	for what, c := range validValues() {
		b := []byte(c.b)
		for n := range len(b) {
			if n > 30 && n < len(b)-30 && n%61 > 0 {
				continue
			}
			wantForm(t, what+", cut off", b[:n:n])
			wantForm(t, what+", cut off, with the rest behind the length", b[:n])
		}
		for _, behind := range [][]byte{{0}, {1}, {0xff}, []byte("\x01\x00"), b, []byte(text(4000))} {
			wantDecoded(t, what+", with others behind", slices.Concat(b, behind), c.v, len(b), api.OK)
		}
	}
}

// The greatest count with exactly the bytes that it needs, fewer, and more.
func TestCounts(t *testing.T) {
	for n := range 140 {
		for count := range 140 {
			head := []byte{byte(count)}
			if count > 127 {
				head = []byte{byte(count), 1}
			}
			b := slices.Concat([]byte{2}, head, []byte(text(n)))
			l := slices.Concat([]byte{3}, head, []byte(strings.Repeat("\x01\x08", n)))
			if count > n {
				wantForm(t, "bytes", b)
				wantForm(t, "elements", l)
				continue
			}
			wantDecoded(t, "bytes", b, data(text(n)[:count]), 1+len(head)+count, api.OK)
			wantDecoded(t, "elements", l, many(count, number(4)), 1+len(head)+2*count, api.OK)
		}
	}
}

// Each code of one and two bytes, and each last byte of the longest codes.
func TestCodes(t *testing.T) {
	for low := range 256 {
		for high := range 256 {
			b := []byte{1, byte(low), byte(high)}
			v, used, e := begun(b)
			wantDecoded(t, "two bytes", b, v, used, e)
		}
		for n := range 12 {
			for _, fill := range []string{"\x80", "\xff", "\x81"} {
				b := []byte("\x01" + strings.Repeat(fill, n) + string([]byte{byte(low)}))
				v, used, e := begun(b)
				wantDecoded(t, "long", b, v, used, e)
				if n == 9 && (e == api.OK) != (low == 1) {
					t.Error("ten bytes", low, e)
				}
			}
		}
	}
}
