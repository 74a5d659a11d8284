package codec_test

import (
	"strings"
	"testing"

	"siding/api"
)

// validValues are values with all of their bytes.
func validValues() map[string]struct {
	v api.Value
	b string
} {
	type one = struct {
		v api.Value
		b string
	}
	return map[string]one{
		"the number 0":          {number(0), "\x01\x00"},
		"the number -1":         {number(-1), "\x01\x01"},
		"the number 1":          {number(1), "\x01\x02"},
		"the number 300":        {number(300), "\x01\xd8\x04"},
		"the number -300":       {number(-300), "\x01\xd7\x04"},
		"no bytes":              {data(""), "\x02\x00"},
		"two bytes":             {data("ab"), "\x02\x02ab"},
		"bytes of zeros":        {data("\x00\x00\x00"), "\x02\x03\x00\x00\x00"},
		"bytes of a value":      {data("\x01\x00"), "\x02\x02\x01\x00"},
		"the greatest bytes":    {data("\xff\x80\x7f"), "\x02\x03\xff\x80\x7f"},
		"no elements":           {list(), "\x03\x00"},
		"one element":           {list(number(7)), "\x03\x01\x01\x0e"},
		"number and bytes":      {list(number(300), data("ab")), "\x03\x02\x01\xd8\x04\x02\x02ab"},
		"equal elements":        {list(data("a"), data("a")), "\x03\x02\x02\x01a\x02\x01a"},
		"not in order":          {list(list(), data("b"), number(2), number(1)), "\x03\x04\x03\x00\x02\x01b\x01\x04\x01\x02"},
		"lists in lists":        {list(list(), list(list(), number(1)), list()), "\x03\x03\x03\x00\x03\x02\x03\x00\x01\x02\x03\x00"},
		"the greatest depth":    {within(5, number(0)), "\x03\x01\x03\x01\x03\x01\x03\x01\x03\x01\x01\x00"},
		"bytes at the depth":    {within(5, data("a")), "\x03\x01\x03\x01\x03\x01\x03\x01\x03\x01\x02\x01a"},
		"a list at the depth":   {within(5, list()), strings.Repeat("\x03\x01", 5) + "\x03\x00"},
		"127 bytes":             {data(text(127)), "\x02\x7f" + text(127)},
		"128 bytes":             {data(text(128)), "\x02\x80\x01" + text(128)},
		"the most bytes":        {data(text(2997)), "\x02\xb5\x17" + text(2997)},
		"127 elements":          {many(127, number(0)), "\x03\x7f" + strings.Repeat("\x01\x00", 127)},
		"128 elements":          {many(128, number(0)), "\x03\x80\x01" + strings.Repeat("\x01\x00", 128)},
		"the most elements":     {many(1498, list()), "\x03\xda\x0b" + strings.Repeat("\x03\x00", 1498)},
		"the most, one longer":  {list(append(many(1497, number(0)).List, number(64))...), "\x03\xda\x0b" + strings.Repeat("\x01\x00", 1497) + "\x01\x80\x01"},
		"the most, deep inside": {within(5, data(text(2987))), strings.Repeat("\x03\x01", 5) + "\x02\xab\x17" + text(2987)},
	}
}

// badValues are values of a wrong kind or depth, or with what does not belong to their kind.
func badValues() map[string]api.Value {
	some, zero := []byte("a"), []byte{0}
	return map[string]api.Value{
		"no kind":                      {},
		"no kind, with a number":       {Num: 1},
		"no kind, with bytes":          {Bytes: some},
		"no kind, with a list":         {List: []api.Value{number(1)}},
		"the kind 4":                   {Kind: 4},
		"the kind 255":                 {Kind: 255},
		"the kind 129":                 {Kind: 129, Num: 1},
		"a number with bytes":          {Kind: 1, Bytes: some},
		"a number with a zero byte":    {Kind: 1, Num: 5, Bytes: zero},
		"a number with a list":         {Kind: 1, List: []api.Value{number(0)}},
		"a number with a bad element":  {Kind: 1, List: []api.Value{{}}},
		"bytes with a number":          {Kind: 2, Num: 1, Bytes: some},
		"bytes with a number below 0":  {Kind: 2, Num: -1},
		"bytes with a list":            {Kind: 2, Bytes: some, List: []api.Value{number(0)}},
		"bytes with a bad element":     {Kind: 2, List: []api.Value{{}}},
		"a list with a number":         {Kind: 3, Num: 1, List: []api.Value{number(0)}},
		"a list with a number below 0": {Kind: 3, Num: -1},
		"a list with bytes":            {Kind: 3, Bytes: some, List: []api.Value{number(0)}},
		"a list with a zero byte":      {Kind: 3, Bytes: zero},
		"a number too deep":            within(6, number(0)),
		"bytes too deep":               within(6, data("")),
		"a list too deep":              within(6, list()),
		"much too deep":                within(300, number(0)),
		"deep behind others":           list(number(1), list(), within(5, data("a"))),
		"too deep before others":       list(within(5, data("a")), number(1), list()),
	}
}

// manyBytes are values that have too many bytes, and nothing else that is wrong.
func manyBytes() map[string]api.Value {
	return map[string]api.Value{
		"one byte too many":     data(text(2998)),
		"3,000 bytes":           data(text(3000)),
		"100,000 bytes":         data(text(100000)),
		"elements":              many(1499, number(0)),
		"100,000 elements":      many(100000, list()),
		"an element of its own": list(data(text(2998))),
		"its head is too much":  list(data(text(2996))),
		"one number too long":   list(append(many(1497, number(0)).List, number(8192))...),
		"one number below 0":    list(append(many(1497, number(0)).List, number(-8193))...),
		"one more behind":       list(data(text(2994)), number(0)),
		"two halves":            list(data(text(1500)), data(text(1500))),
		"deep inside":           within(5, data(text(2988))),
		"long numbers":          many(273, number(1<<62)),
		"one byte, many lists":  many(1000, within(1, data(""))),
		"of the greatest depth": many(300, within(4, number(0))),
		"two long lists":        list(many(128, number(1)), many(1369, number(1))),
	}
}

// P7.1

func TestValidValues(t *testing.T) {
	for what, c := range validValues() {
		wantValid(t, what, c.v, []byte(c.b))
	}
}

func TestNumbers(t *testing.T) {
	for _, c := range []struct {
		n int64
		b string
	}{
		{63, "\x7e"}, {-64, "\x7f"}, {64, "\x80\x01"}, {-65, "\x81\x01"},
		{8191, "\xfe\x7f"}, {-8192, "\xff\x7f"}, {8192, "\x80\x80\x01"}, {-8193, "\x81\x80\x01"},
		{1<<20 - 1, "\xfe\xff\x7f"}, {-1 << 20, "\xff\xff\x7f"}, {1 << 20, "\x80\x80\x80\x01"}, {-1<<20 - 1, "\x81\x80\x80\x01"},
		{1<<62 - 1, "\xfe\xff\xff\xff\xff\xff\xff\xff\x7f"}, {-1 << 62, "\xff\xff\xff\xff\xff\xff\xff\xff\x7f"},
		{1 << 62, "\x80\x80\x80\x80\x80\x80\x80\x80\x80\x01"}, {-1<<62 - 1, "\x81\x80\x80\x80\x80\x80\x80\x80\x80\x01"},
		{1<<63 - 1, "\xfe\xff\xff\xff\xff\xff\xff\xff\xff\x01"}, {-1 << 63, "\xff\xff\xff\xff\xff\xff\xff\xff\xff\x01"},
	} {
		wantValid(t, "number", number(c.n), []byte("\x01"+c.b))
		wantValid(t, "in a list", list(number(c.n), data("z")), []byte("\x03\x02\x01"+c.b+"\x02\x01z"))
	}
}

// Around each place where a code grows by a byte.
func TestSizesOfNumbers(t *testing.T) {
	for size := 1; size <= 9; size++ {
		edge := int64(1) << (7*size - 1)
		for what, c := range map[string]struct {
			n    int64
			size int
		}{
			"the last above 0": {edge - 1, size}, "the next above 0": {edge, size + 1},
			"the last below 0": {-edge, size}, "the next below 0": {-edge - 1, size + 1},
		} {
			b := encoded(number(c.n))
			if len(b) != 1+c.size {
				t.Error(what, c.n, len(b))
			}
			wantValid(t, what, number(c.n), b)
		}
	}
	for _, n := range extremes {
		wantValid(t, "extreme", number(n), encoded(number(n)))
	}
}

func TestBytesOfEachLength(t *testing.T) {
	for n := range 2998 {
		if n > 300 && n < 2990 && n%97 > 0 {
			continue
		}
		v := data(text(n))
		wantValid(t, "bytes", v, encoded(v))
	}
}

func TestBytesOfEachCount(t *testing.T) {
	for n := range 1499 {
		if n > 260 && n < 1490 && n%97 > 0 {
			continue
		}
		for _, e := range []api.Value{number(-3), data(""), list()} {
			v := many(n, e)
			wantValid(t, "list", v, encoded(v))
		}
	}
}

func TestBadValues(t *testing.T) {
	for what, v := range badValues() {
		wantInvalid(t, what, v, api.ErrBad)
		for lists := range 7 {
			wantInvalid(t, what+", in lists", within(lists, v), api.ErrBad)
			wantInvalid(t, what+", between others", among(lists, v), api.ErrBad)
		}
		wantInvalid(t, what+", behind too many bytes", list(data(text(5000)), v), api.ErrBad)
		wantInvalid(t, what+", before too many bytes", list(v, data(text(5000))), api.ErrBad)
		wantInvalid(t, what+", behind too many elements", list(many(3000, number(0)), list(v)), api.ErrBad)
	}
}

func TestEachKind(t *testing.T) {
	for kind := range 256 {
		v := api.Value{Kind: uint8(kind)}
		want := api.ErrBad
		if kind >= 1 && kind <= 3 {
			want = api.OK
		}
		for lists := range 6 {
			if want == api.OK {
				wantValid(t, "kind", among(lists, v), encoded(among(lists, v)))
			} else {
				wantInvalid(t, "kind", among(lists, v), want)
			}
		}
	}
}

// What does not belong to a kind, in all combinations.
func TestWhatBelongsToAKind(t *testing.T) {
	for bits := range 32 {
		v := api.Value{Kind: uint8(bits&3) + 1}
		if bits&4 > 0 {
			v.Num = 3
		}
		if bits&8 > 0 {
			v.Bytes = []byte("abc")
		}
		if bits&16 > 0 {
			v.List = []api.Value{list(), data("d")}
		}
		good := []bool{v.Bytes == nil && v.List == nil, v.Num == 0 && v.List == nil, v.Num == 0 && v.Bytes == nil, false}[bits&3]
		if good {
			wantValid(t, "belongs", v, encoded(v))
		} else {
			wantInvalid(t, "does not belong", v, api.ErrBad)
		}
	}
}

func TestTooManyBytes(t *testing.T) {
	for what, v := range manyBytes() {
		wantInvalid(t, what, v, api.ErrMany)
		wantForm(t, what, encoded(v))
		for lists := 1; lists+depth(v) <= 6; lists++ {
			wantInvalid(t, what+", in lists", within(lists, v), api.ErrMany)
			wantInvalid(t, what+", between others", among(lists, v), api.ErrMany)
		}
		wantInvalid(t, what+", too deep", within(6, v), api.ErrBad)
	}
}

// Values at the limit that grow by a byte, of each part.
func TestAroundTheMostBytes(t *testing.T) {
	for size := 2900; size <= 3100; size++ {
		for _, v := range []api.Value{
			data(text(size - 3)),
			list(data(text(size - 5))),
			list(number(1), data(text(size-9)), number(1)),
			within(5, data(text(size-13))),
			list(data(text(size-2-3-1-5)), number(1<<32)),
		} {
			b := encoded(v)
			if len(b) <= 3000 {
				wantValid(t, "size", v, b)
			} else {
				wantInvalid(t, "size", v, api.ErrMany)
				wantForm(t, "size", b)
			}
		}
	}
}
