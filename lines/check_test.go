package lines_test

import (
	"math/rand/v2"
	"strings"
	"testing"
)

// P13.1

// The examples of the chapter.
func TestTextsOfExamples(t *testing.T) {
	wantText(t, "example", "a\n\nb\n", list{"a", "", "b", ""})
	wantText(t, "example", "", list{""})
}

func TestTexts(t *testing.T) {
	for text, want := range map[string]list{
		"a":                        {"a"},
		"ab":                       {"ab"},
		" ":                        {" "},
		"\n":                       {"", ""},
		"\n\n":                     {"", "", ""},
		"\n\n\n":                   {"", "", "", ""},
		"a\n":                      {"a", ""},
		"\na":                      {"", "a"},
		"\na\n":                    {"", "a", ""},
		"a\nb":                     {"a", "b"},
		"a\nb\n":                   {"a", "b", ""},
		"a\n\n":                    {"a", "", ""},
		"a\n\nb":                   {"a", "", "b"},
		"\n\na":                    {"", "", "a"},
		"ab\ncd\nef":               {"ab", "cd", "ef"},
		" a \n b \n":               {" a ", " b ", ""},
		"\r\n\r\n":                 {"\r", "\r", ""},
		"a\rb":                     {"a\rb"},
		"a\n\rb":                   {"a", "\rb"},
		"a\x00b\x00\nc":            {"a\x00b\x00", "c"},
		"a\vb\fc\td":               {"a\vb\fc\td"},
		"\\n\n\\n":                 {"\\n", "\\n"},
		"a\u0085b\u2028c\u2029d":   {"a\u0085b\u2028c\u2029d"},
		"\u010a\u0a0a":             {"\u010a\u0a0a"},
		"\x8a\n\x0b\n\x09\n\x1a":   {"\x8a", "\x0b", "\x09", "\x1a"},
		"\xff\n\xfe\x80\n\xe2\x82": {"\xff", "\xfe\x80", "\xe2\x82"},
		"\xe2\n\x82\xac":           {"\xe2", "\x82\xac"},
		"\ufeffa\n\ufeff":          {"\ufeffa", "\ufeff"},
	} {
		wantText(t, "text", text, want)
	}
}

// Each byte alone, between others, and between line feeds.
func TestEachByte(t *testing.T) {
	for i := range 256 {
		s := string([]byte{byte(i)})
		if s == "\n" {
			continue
		}
		wantText(t, "alone", s, list{s})
		wantText(t, "between others", "a"+s+"b", list{"a" + s + "b"})
		wantText(t, "between feeds", "\n"+s+"\n", list{"", s, ""})
		wantText(t, "twice", s+"\n"+s, list{s, s})
	}
}

func TestNumbersOfBytes(t *testing.T) {
	for _, n := range []int{1, 2, 127, 128, 255, 256, 257, 1000, 1024, 1998, 1999, 2000} {
		wantText(t, "one line", text(n), list{text(n)})
		wantText(t, "two lines", text(n-1)+"\n", list{text(n - 1), ""})
		wantText(t, "two other lines", "\n"+text(n-1), list{"", text(n - 1)})
	}
	for _, n := range []int{2001, 2002, 2048, 2256, 4000, 4001, 1<<16 - 1, 1 << 16, 1<<16 + 1, 1<<16 + 2000, 1 << 20} {
		wantNoText(t, "one line", text(n))
		wantNoText(t, "two lines", text(n-1)+"\n")
		wantNoText(t, "two other lines", "\n"+text(n-1))
		wantNoText(t, "zeros", strings.Repeat("\x00", n))
	}
	wantText(t, "zeros", strings.Repeat("\x00", 2000), list{strings.Repeat("\x00", 2000)})
	// These are fewer than 2,000 characters, but not fewer bytes.
	wantText(t, "characters", strings.Repeat("\u00e4", 1000), list{strings.Repeat("\u00e4", 1000)})
	wantNoText(t, "characters", strings.Repeat("\u00e4", 1000)+"a")
	wantNoText(t, "longer characters", strings.Repeat("\u20ac", 667))
}

func TestNumbersOfLines(t *testing.T) {
	for n := range 60 {
		wantText(t, "feeds", feeds(n), same(n+1, ""))
		wantText(t, "full lines", strings.Repeat("ab\n", n)+"ab", same(n+1, "ab"))
		wantText(t, "a last feed", strings.Repeat("ab\n", n), joined(same(n, "ab"), list{""}))
		wantText(t, "feeds behind", text(9)+feeds(n), joined(list{text(9)}, same(n, "")))
		wantText(t, "feeds in front", feeds(n)+text(9), joined(same(n, ""), list{text(9)}))
		wantText(t, "different", textOf(numbered(n+1)), numbered(n+1))
	}
	for _, n := range []int{60, 61, 62, 100, 255, 256, 257, 315, 1999, 2000, 2001, 1 << 16, 1<<16 + 59} {
		wantNoText(t, "feeds", feeds(n))
		wantNoText(t, "full lines", strings.Repeat("ab\n", n)+"ab")
		wantNoText(t, "feeds behind", text(9)+feeds(n))
		wantNoText(t, "feeds in front", feeds(n)+text(9))
		wantNoText(t, "different", textOf(numbered(n+1)))
	}
}

// One limit is met where the other one is, or is passed by one.
func TestBothLimits(t *testing.T) {
	for _, half := range []int{0, 1, 29, 30, 58, 59} {
		in := func(bytes, n int) string {
			return feeds(half) + text(bytes-n) + feeds(n-half)
		}
		want := func(bytes, n int) list {
			return joined(same(half, ""), list{text(bytes - n)}, same(n-half, ""))
		}
		wantText(t, "both met", in(2000, 59), want(2000, 59))
		wantText(t, "nearly both met", in(1999, 59), want(1999, 59))
		wantNoText(t, "too many lines", in(2000, 60))
		wantNoText(t, "too many lines", in(1999, 60))
		wantNoText(t, "too many bytes", in(2001, 59))
		wantNoText(t, "both passed", in(2001, 60))
		wantNoText(t, "both passed by far", in(4000, 120))
	}
	wantText(t, "too many bytes but for one", text(1999)+"\n", list{text(1999), ""})
	wantNoText(t, "a last feed", text(2000)+"\n")
	wantNoText(t, "a first feed", "\n"+text(2000))
}

// A line feed more at each place, where there may be none.
func TestOneFeedMore(t *testing.T) {
	full := textOf(numbered(60))
	for at := range len(full) + 1 {
		wantNoText(t, "a feed more", full[:at]+"\n"+full[at:])
		wantText(t, "a byte more", full[:at]+"a"+full[at:], linesOf(full[:at]+"a"+full[at:]))
	}
	long := text(2000)
	for at := 0; at <= len(long); at += 37 {
		wantNoText(t, "a feed more", long[:at]+"\n"+long[at:])
	}
}

func TestShortTexts(t *testing.T) {
	for _, text := range words("a\n\r", 7) {
		wantText(t, "short", text, linesOf(text))
	}
	for _, text := range words("ab\n\x8a", 5) {
		wantText(t, "short", text, linesOf(text))
	}
}

func TestRandomTexts(t *testing.T) {
	r := rand.New(rand.NewPCG(13, 1))
	for range 2000 {
		text := randomText(r, r.IntN(2100), 1+r.IntN(100))
		if len(text) > 2000 || feedsIn(text) > 59 {
			wantNoText(t, "random", text)
		} else {
			wantText(t, "random", text, linesOf(text))
		}
	}
}
