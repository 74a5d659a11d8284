package delta_test

import (
	"math/rand/v2"
	"slices"
	"strings"
	"testing"

	"siding/api"
	"siding/delta"
)

// P11.3

func TestMake(t *testing.T) {
	for _, c := range []struct {
		base, target string
		l            parts
	}{
		{"", "", nil},
		{"abc", "", nil},
		{"", "a", parts{inserted("a")}},
		{"", "abc", parts{inserted("abc")}},
		{"abcdef", "abcxdef", parts{copied(0, 3), inserted("x"), copied(3, 3)}},
		{"abcdef", "cdefcdef", parts{copied(2, 4), copied(2, 4)}},
		{"abcdef", "ab", parts{copied(0, 2)}},
		{"abcdef", "a", parts{inserted("a")}},
		{"abcdef", "abcdef", parts{copied(0, 6)}},
		{"a", "a", parts{inserted("a")}},
		{"ab", "ab", parts{copied(0, 2)}},
		{"ab", "ba", parts{inserted("ba")}},
		{"a\x00\xff\n", "\x00\xff\nx", parts{copied(1, 3), inserted("x")}},
	} {
		wantMake(t, "literal", c.base, c.target, c.l)
	}
}

// What would cost as much as an insert, one less, and one more.
func TestCopiesBesideInserts(t *testing.T) {
	base := "abcdefgh"
	for _, c := range []struct {
		target string
		l      parts
	}{
		// Alone, at the beginning, and at the end, copies of two bytes, one, and three.
		{"b", parts{inserted("b")}},
		{"bc", parts{copied(1, 2)}},
		{"bcd", parts{copied(1, 3)}},
		{"bX", parts{inserted("bX")}},
		{"bcX", parts{inserted("bcX")}},
		{"bcdX", parts{copied(1, 3), inserted("X")}},
		{"bcdeX", parts{copied(1, 4), inserted("X")}},
		{"Xb", parts{inserted("Xb")}},
		{"Xbc", parts{inserted("Xbc")}},
		{"Xbcd", parts{inserted("X"), copied(1, 3)}},
		{"Xbcde", parts{inserted("X"), copied(1, 4)}},
		// Between inserts a copy saves one more insert less.
		{"XbcY", parts{inserted("XbcY")}},
		{"XbcdY", parts{inserted("XbcdY")}},
		{"XbcdeY", parts{inserted("X"), copied(1, 4), inserted("Y")}},
		{"XbcdefY", parts{inserted("X"), copied(1, 5), inserted("Y")}},
		// Beside other copies.
		{"abcfg", parts{copied(0, 3), copied(5, 2)}},
		{"abcf", parts{copied(0, 3), inserted("f")}},
		{"fabc", parts{inserted("f"), copied(0, 3)}},
		{"fgabc", parts{copied(5, 2), copied(0, 3)}},
		{"abcXefg", parts{copied(0, 3), inserted("X"), copied(4, 3)}},
		{"abcXYefg", parts{copied(0, 3), inserted("XY"), copied(4, 3)}},
	} {
		wantMake(t, "beside", base, c.target, c.l)
	}
}

// Of copies of the same bytes the one with the lesser At, and of copies of the same cost the one with the greater N goes first.
func TestOrderOfParts(t *testing.T) {
	for _, c := range []struct {
		base, target string
		l            parts
	}{
		{"abab", "ab", parts{copied(0, 2)}},
		{"xabyab", "ab", parts{copied(1, 2)}},
		{"abcxabcd", "abcd", parts{copied(4, 4)}},
		{"abcxabcd", "abc", parts{copied(0, 3)}},
		{"abcd-cdefg", "abcdefg", parts{copied(0, 4), copied(7, 3)}},
		{"cdefg-abcd", "abcdefg", parts{copied(6, 4), copied(2, 3)}},
		{"ab-abc-abcd", "abcab", parts{copied(3, 3), copied(0, 2)}},
		{"ab-abc-abcd", "abcabab", parts{copied(3, 3), inserted("abab")}},
		{"aaaa", "aa", parts{copied(0, 2)}},
		{"aaaa", "aaaaa", parts{copied(0, 4), inserted("a")}},
		{"aaaa", "aaaaaa", parts{copied(0, 4), copied(0, 2)}},
		{"aaaa", "aaaaaaaaa", parts{copied(0, 4), copied(0, 4), inserted("a")}},
		{"abcd-cdefgh", "abcdefghX", parts{copied(0, 4), copied(7, 4), inserted("X")}},
		{"abc-cdef", "abcdefX", parts{copied(0, 3), copied(5, 3), inserted("X")}},
		// A copy goes before an insert, as long as this costs no more.
		{"abc-bcd", "abcd", parts{copied(0, 3), inserted("d")}},
		{"ab-bcd", "abcd", parts{inserted("a"), copied(3, 3)}},
		{"abc-bcdef", "abcdefX", parts{inserted("a"), copied(4, 5), inserted("X")}},
		// Of inserts the one with less bytes, as long as this costs no more.
		{"abcdef", "Xabc", parts{inserted("X"), copied(0, 3)}},
		{"abcdef", "Xab", parts{inserted("Xab")}},
		{"abcdef", "XabcdY", parts{inserted("X"), copied(0, 4), inserted("Y")}},
		{"bcd-abc", "XabcdX", parts{inserted("XabcdX")}},
		{"abcdef", "Xabcdef", parts{inserted("X"), copied(0, 6)}},
		{"bcde-abcd", "Xabcde", parts{inserted("Xa"), copied(0, 4)}},
		{"cdefg-abcd", "Xabcdefg", parts{inserted("Xab"), copied(0, 5)}},
		{"defg-abcd", "Xabcdefg", parts{inserted("X"), copied(5, 4), copied(1, 3)}},
		{"bcdef-abc", "Xabcdef", parts{inserted("Xa"), copied(0, 5)}},
	} {
		wantMake(t, "order", c.base, c.target, c.l)
	}
}

// deltas yields all deltas of less than some parts that fit a base and give a target.
func deltas(base, target string, most int, yield func(parts)) {
	var row parts
	var extend func(rest string)
	extend = func(rest string) {
		if rest == "" {
			yield(row)
			return
		}
		for n := 1; n <= len(rest) && len(row) < most; n++ {
			row = append(row, inserted(rest[:n]))
			extend(rest[n:])
			row = row[:len(row)-1]
			for at := 0; at+n <= len(base); at++ {
				if base[at:at+n] == rest[:n] {
					row = append(row, copied(at, n))
					extend(rest[n:])
					row = row[:len(row)-1]
				}
			}
		}
	}
	extend(target)
}

// leastOfAll is the least one of all deltas, and how many there are.
func leastOfAll(base, target string) (parts, int) {
	var best parts
	count := 0
	deltas(base, target, 200, func(l parts) {
		if count == 0 || less(l, best) {
			best = slices.Clone(l)
		}
		count++
	})
	return best, count
}

// words are all words of at most so many letters.
func words(letters string, most int) []string {
	all := []string{""}
	for at := 0; at < len(all); at++ {
		for i := range len(letters) {
			if len(all[at]) < most {
				all = append(all, all[at]+letters[i:i+1])
			}
		}
	}
	return all
}

func TestAllShortBasesAndTargets(t *testing.T) {
	for _, c := range []struct {
		letters      string
		base, target int
	}{{"a", 7, 6}, {"ab", 4, 5}, {"abc", 3, 4}} {
		for _, base := range words(c.letters, c.base) {
			for _, target := range words(c.letters, c.target) {
				l, _ := leastOfAll(base, target)
				wantMake(t, "all", base, target, l)
			}
		}
	}
}

// randomText has n of the first letters.
func randomText(r *rand.Rand, letters, n int) string {
	var b strings.Builder
	for range n {
		b.WriteByte('a' + byte(r.IntN(letters)))
	}
	return b.String()
}

// pieced has up to n bytes, most of which are copied from a base in pieces.
func pieced(r *rand.Rand, base string, letters, n int) string {
	var b strings.Builder
	for b.Len() < n {
		if len(base) > 0 && r.IntN(3) > 0 {
			at := r.IntN(len(base))
			b.WriteString(base[at : at+1+r.IntN(len(base)-at)])
		} else {
			b.WriteString(randomText(r, letters, 1+r.IntN(3)))
		}
	}
	return b.String()[:n]
}

func TestRandomShortTargets(t *testing.T) {
	r := rand.New(rand.NewPCG(11, 2))
	all := 0
	for range 3000 {
		letters := 2 + r.IntN(8)
		base := randomText(r, letters, r.IntN(9))
		target := pieced(r, base, letters, r.IntN(8))
		l, count := leastOfAll(base, target)
		all += count
		wantMake(t, "random", base, target, l)
	}
	if all < 100000 {
		t.Error(all)
	}
}

// modelled is the least delta, found by comparing whole deltas for each end of a target, with all copies.
func modelled(base, target string) parts {
	type row struct {
		l    parts
		cost int
	}
	best := make([]row, len(target)+1)
	for from := len(target) - 1; from >= 0; from-- {
		found := false
		use := func(p api.DeltaPart, rest row) {
			cost := costOf(parts{p}) + rest.cost
			if found && cost > best[from].cost {
				return
			}
			l := append(parts{p}, rest.l...)
			if !found || cost < best[from].cost || less(l, best[from].l) {
				best[from], found = row{l, cost}, true
			}
		}
		for to := from + 1; to <= len(target); to++ {
			use(inserted(target[from:to]), best[to])
		}
		for at := range base {
			for n := 1; at+n <= len(base) && from+n <= len(target) && base[at+n-1] == target[from+n-1]; n++ {
				use(copied(at, n), best[from+n])
			}
		}
	}
	return best[0].l
}

func TestModelOfTheLeast(t *testing.T) {
	for _, base := range words("ab", 4) {
		for _, target := range words("ab", 5) {
			if l, _ := leastOfAll(base, target); !same(modelled(base, target), l) {
				t.Error(base, target, brief(modelled(base, target)), brief(l))
			}
		}
	}
}

func TestRandomTargets(t *testing.T) {
	r := rand.New(rand.NewPCG(11, 3))
	for range 1500 {
		letters := 1 + r.IntN(20)
		base := randomText(r, letters, r.IntN(50))
		target := pieced(r, base, letters, r.IntN(50))
		wantMake(t, "pieced", base, target, modelled(base, target))
		target = randomText(r, letters, r.IntN(50))
		wantMake(t, "random", base, target, modelled(base, target))
	}
}

func TestRandomLongTargets(t *testing.T) {
	r := rand.New(rand.NewPCG(11, 4))
	for range 60 {
		letters := 2 + r.IntN(20)
		base := randomText(r, letters, 200+r.IntN(101))
		target := pieced(r, base, letters, 200+r.IntN(101))
		wantMake(t, "pieced", base, target, modelled(base, target))
		target = randomText(r, letters, 200+r.IntN(101))
		wantMake(t, "random", base, target, modelled(base, target))
	}
}

func TestLengthsOfMake(t *testing.T) {
	for _, n := range []int{0, 1, 2, 298, 299, 300} {
		for _, k := range []int{0, 1, 2, 298, 299, 300} {
			base, target := strings.Repeat("a", n), text(300)[:k]
			wantMake(t, "nothing to copy but letters", base, strings.ReplaceAll(target, "a", "b"), modelled(base, strings.ReplaceAll(target, "a", "b")))
			wantMake(t, "the same bytes", text(n), text(k), modelled(text(n), text(k)))
			wantMake(t, "the same letter", base, strings.Repeat("a", k), modelled(base, strings.Repeat("a", k)))
		}
	}
	for _, n := range []int{301, 302, 511, 512, 556, 600, 2000, 2001, 1 << 16, 1<<16 + 1} {
		for _, k := range []int{0, 1, 299, 300, 301, 2001} {
			wantNoMake(t, "a base that is too long", text(n), text(k))
			wantNoMake(t, "a target that is too long", text(k), text(n))
			wantNoMake(t, "the same letter", strings.Repeat("a", n), strings.Repeat("a", k))
		}
	}
}

func TestAllOfTheBase(t *testing.T) {
	for n := 2; n <= 300; n++ {
		b := text(n)
		wantMake(t, "all", b, b, parts{copied(0, n)})
		wantMake(t, "without the first byte", b, b[1:], modelled(b, b[1:]))
		if n < 300 {
			x := text(300)[299:]
			wantMake(t, "one more", b, b+x, modelled(b, b+x))
		}
	}
}

// Bytes that do not occur in the base are one insert, whatever their number.
func TestNothingToCopy(t *testing.T) {
	for n := 1; n <= 300; n++ {
		target := strings.Repeat("xy", 150)[:n]
		for _, base := range []string{"", "a", strings.Repeat("a", 300)} {
			wantMake(t, "nothing", base, target, parts{inserted(target)})
		}
	}
}

// Every byte can be copied, and every one can be inserted.
func TestAllBytes(t *testing.T) {
	var b []byte
	for c := range 256 {
		b = append(b, byte(c))
	}
	all := string(b)
	wantMake(t, "copied", all, all, parts{copied(0, 256)})
	wantMake(t, "inserted", "", all, parts{inserted(all)})
	for c := range 256 {
		two := all[c:c+1] + all[c:c+1]
		wantMake(t, "twice", "xyz"+two, two, parts{copied(strings.Index("xyz"+two, two), 2)})
	}
}

// As many parts as can be: they are less than MaxParts.
func TestNumberOfPartsOfTheLeast(t *testing.T) {
	most := 0
	for n := 2; n <= 8; n++ {
		for gap := range 4 {
			base := "abcdefghijklmnop"[:n]
			target := strings.Repeat(base+"XYZ"[:gap], 300)[:300]
			l, e := delta.Make([]byte(base), []byte(target))
			if e != api.OK || len(l) >= 200 || !same(l, modelled(base, target)) {
				t.Error(n, gap, brief(l), e)
			}
			most = max(most, len(l))
		}
	}
	if most < 100 {
		t.Error(most)
	}
}
