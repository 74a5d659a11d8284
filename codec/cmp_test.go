package codec_test

import (
	"slices"
	"testing"

	"siding/api"
	"siding/codec"
)

// ordered are values of which each one is less than the next.
func ordered() []api.Value {
	numbers := []int64{-65, -64, -63, 63, 64, 65, 127, 128, 255, 256, 300, 8191, 8192, -300, -8193, -8192, -128, -129}
	numbers = append(numbers, extremes...)
	slices.Sort(numbers)
	var l []api.Value
	for _, n := range slices.Compact(numbers) {
		l = append(l, number(n))
	}
	for _, s := range []string{"", "\x00", "\x00\x00", "\x00\x01", "\x01", "\x01\x00", "\x01\xff", "\x02", "a", "aa", "aaa", "ab", "abc", "b", "ba", "\x7f", "\x80", "\x80\x00", "\xff", "\xff\x00", "\xff\xff"} {
		l = append(l, data(s))
	}
	return append(l,
		list(),
		list(number(-1)),
		list(number(-1), number(-1)),
		list(number(-1), data("")),
		list(number(-1), list()),
		list(number(0)),
		list(number(0), number(5)),
		list(number(1)),
		list(number(1), number(0), list()),
		list(number(1), number(1)),
		list(number(200)),
		list(data("")),
		list(data(""), number(9)),
		list(data("a")),
		list(data("aa")),
		list(data("aa"), number(0)),
		list(data("ab")),
		list(data("b")),
		list(data("b"), data("a")),
		list(list()),
		list(list(), number(0)),
		list(list(), list()),
		list(list(number(1))),
		list(list(number(1)), number(0)),
		list(list(number(1), number(0))),
		list(list(number(2))),
		list(list(data("a"), data("b")), number(0)),
		list(list(data("b"))),
		within(3, number(0)),
		within(4, number(0)),
		within(5, number(0)),
		within(5, number(1)),
		within(5, data("")),
		within(5, list()),
	)
}

// P7.3

func TestOrder(t *testing.T) {
	l := ordered()
	for i, a := range l {
		for k, b := range l {
			n := 0
			if i < k {
				n = -1
			}
			if i > k {
				n = 1
			}
			wantCmp(t, "order", a, b, n, api.OK)
		}
	}
}

// Neither the length of the bytes nor their own order is that of the values.
func TestOrderIsNotThatOfTheBytes(t *testing.T) {
	wantCmp(t, "a number below 0", number(-1), number(0), -1, api.OK)
	wantCmp(t, "a small number below 0", number(-1000), number(1), -1, api.OK)
	wantCmp(t, "more of less", data("aaaa"), data("b"), -1, api.OK)
	wantCmp(t, "more elements", list(number(1), number(9)), list(number(2)), -1, api.OK)
	wantCmp(t, "a number with a long code", number(300), number(1<<40), -1, api.OK)
	wantCmp(t, "number and bytes", number(1<<62), data(""), -1, api.OK)
	wantCmp(t, "bytes and list", data("\xff\xff"), list(), -1, api.OK)
}

// The first difference decides, wherever it is.
func TestFirstDifferenceDecides(t *testing.T) {
	base := []api.Value{number(5), data("m"), list(number(5)), number(5)}
	less := []api.Value{number(4), data("l"), list(number(4)), number(4)}
	for i := range base {
		a, b := slices.Clone(base), slices.Clone(base)
		a[i] = less[i]
		for k := i + 1; k < len(base); k++ {
			b[k] = less[k]
		}
		for lists := range 4 {
			wantCmp(t, "less", within(lists, list(a...)), within(lists, list(b...)), -1, api.OK)
			wantCmp(t, "greater", within(lists, list(b...)), within(lists, list(a...)), 1, api.OK)
			wantCmp(t, "less, with more behind", within(lists, list(append(slices.Clone(a), list())...)), within(lists, list(b...)), -1, api.OK)
			wantCmp(t, "less, with less behind", within(lists, list(a...)), within(lists, list(append(slices.Clone(b), number(-9))...)), -1, api.OK)
		}
	}
	for n := range 3 {
		a, b := []byte("mmm"), []byte("mmm")
		a[n] = 'l'
		for k := n + 1; k < 3; k++ {
			b[k] = 'a'
		}
		wantCmp(t, "bytes", data(string(a)), data(string(b)), -1, api.OK)
		wantCmp(t, "bytes", data(string(b)), data(string(a)), 1, api.OK)
	}
}

func TestLongValues(t *testing.T) {
	a, b := text(2997), []byte(text(2997))
	b[2996]++
	wantCmp(t, "the last byte", data(a), data(string(b)), -1, api.OK)
	wantCmp(t, "the last byte", data(string(b)), data(a), 1, api.OK)
	wantCmp(t, "one byte less", data(a[:2996]), data(a), -1, api.OK)
	l := many(1498, number(3))
	l.List[1497] = number(-3)
	wantCmp(t, "the last element", l, many(1498, number(3)), -1, api.OK)
	wantCmp(t, "one element less", many(1498, number(3)), many(1497, number(3)), 1, api.OK)
}

// The error of the first one comes before that of the second one.
func TestErrorsOfCmp(t *testing.T) {
	for what, bad := range badValues() {
		wantCmp(t, what, bad, number(1), 0, api.ErrBad)
		wantCmp(t, what, number(1), bad, 0, api.ErrBad)
		wantCmp(t, what, bad, bad, 0, api.ErrBad)
		for name, many := range manyBytes() {
			wantCmp(t, what+", "+name, bad, many, 0, api.ErrBad)
			wantCmp(t, what+", "+name, many, bad, 0, api.ErrMany)
		}
	}
	for what, many := range manyBytes() {
		wantCmp(t, what, many, number(1), 0, api.ErrMany)
		wantCmp(t, what, number(1), many, 0, api.ErrMany)
		wantCmp(t, what, many, many, 0, api.ErrMany)
	}
	// Errors count even if the order is clear before.
	wantCmp(t, "a bad one behind", list(number(1)), list(number(2), api.Value{}), 0, api.ErrBad)
	wantCmp(t, "bad ones behind", list(number(1), api.Value{}), list(number(2)), 0, api.ErrBad)
	wantCmp(t, "kinds that differ", number(1), api.Value{Kind: 4}, 0, api.ErrBad)
}

func TestSortingByOrder(t *testing.T) {
	l := ordered()
	got := slices.Clone(l)
	slices.Reverse(got)
	slices.SortFunc(got, func(a, b api.Value) int {
		n, _ := codec.Cmp(a, b)
		return n
	})
	for i := range l {
		if !same(got[i], l[i]) {
			t.Error(i, got[i], l[i])
		}
	}
}
