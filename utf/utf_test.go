package utf_test

import (
	"math"
	"slices"
	"strings"
	"sync"
	"testing"

	"hallmark/api"
	"hallmark/utf"
)

// eachRune calls for every number from 0 to 10FFFF that is a rune.
func eachRune(do func(r rune)) {
	for r := rune(0); r <= 0x10FFFF; r++ {
		if isRune(r) {
			do(r)
		}
	}
}

// strangers are numbers that are no rune.
func strangers() []rune {
	return []rune{-1, -0xFFFD, math.MinInt32, 0xD800, 0xDABC, 0xDBFF, 0xDC00, 0xDFFF, 0x110000, 0x1FFFFF, math.MaxInt32}
}

func checkPieces(t *testing.T, s string) {
	t.Helper()
	want := runesOf(s)
	if got := utf.Runes(s); !slices.Equal(got, want) {
		t.Errorf("Runes(%x) = %x, want %x", s, got, want)
	}
	if got := utf.Len(s); got != len(want) {
		t.Errorf("Len(%x) = %d, want %d", s, got, len(want))
	}
	right := !slices.ContainsFunc(piecesOf(s), func(p piece) bool { return p.stray })
	if got := utf.Valid(s); got != right {
		t.Errorf("Valid(%x) = %v", s, got)
	}
}

func TestP2_1Pieces(t *testing.T) {
	for _, s := range texts(20000) {
		checkPieces(t, s)
	}
	for a := range 256 {
		for b := range 256 {
			checkPieces(t, string([]byte{byte(a), byte(b)}))
		}
	}
}

func TestP2_1Examples(t *testing.T) {
	for s, want := range map[string]bool{"a\xC3\xA9": true, "\xC3": false, "\xC0\x80": false, "\xED\xA0\x80": false, "": true, replacement: true} {
		if got := utf.Valid(s); got != want {
			t.Errorf("Valid(%x) = %v", s, got)
		}
	}
	if got := utf.Runes("a\xC3\xA9\xFF\xE2\x82"); !slices.Equal(got, []rune{0x61, 0xE9, 0xFFFD, 0xFFFD, 0xFFFD}) {
		t.Errorf("Runes: %x", got)
	}
	if a, b := utf.Len("\xF0\x9F\x98\x80"), utf.Len("\xF0\x9F\x98"); a != 1 || b != 3 {
		t.Errorf("Len: %d, %d", a, b)
	}
	if len(utf.Runes("")) != 0 || utf.Len("") != 0 {
		t.Error("the empty text has pieces")
	}
}

// One rune has one encoding, and it is one piece.
func TestP2_1EachRune(t *testing.T) {
	eachRune(func(r rune) {
		s := encoding(r)
		if got := utf.Runes(s); !utf.Valid(s) || utf.Len(s) != 1 || len(got) != 1 || got[0] != r {
			t.Errorf("the encoding of %x: %v, %x", r, utf.Valid(s), got)
		}
	})
}

func checkStray(t *testing.T, s string) {
	t.Helper()
	if utf.Valid(s) || utf.Len(s) != len(s) {
		t.Errorf("%x: Valid %v, Len %d", s, utf.Valid(s), utf.Len(s))
	}
	for _, r := range utf.Runes(s) {
		if r != 0xFFFD {
			t.Errorf("Runes(%x) has %x", s, r)
		}
	}
}

// A longer way of writing a rune, and one of a number that is no rune, are stray bytes.
func TestP2_1WrongEncodings(t *testing.T) {
	for n := range rune(0x80) {
		checkStray(t, encode(n, 2))
	}
	for n := range rune(0x800) {
		checkStray(t, encode(n, 3))
	}
	for n := range rune(0x10000) {
		checkStray(t, encode(n, 4))
	}
	for n := rune(0xD800); n <= 0xDFFF; n++ {
		checkStray(t, encode(n, 3))
	}
	for n := rune(0x110000); n <= 0x1FFFFF; n += 0x3F1 {
		checkStray(t, encode(n, 4))
	}
	for _, s := range []string{"\xF8\x88\x80\x80\x80", "\xFC\x84\x80\x80\x80\x80", "\x80", "\xBF\xBF", "\xFE", "\xFF", "\xEF\xBF", "\xC2", "\xF4\x8F\xBF"} {
		checkStray(t, s)
	}
}

func TestP2_2Text(t *testing.T) {
	if got := utf.Text([]rune{0x61, -1, 0xD800, 0x1F600}); got != "a"+replacement+replacement+"\xF0\x9F\x98\x80" {
		t.Errorf("Text: %x", got)
	}
	if utf.Text(nil) != "" || utf.Text([]rune{}) != "" {
		t.Error("Text of nothing")
	}
	eachRune(func(r rune) {
		if got := utf.Text([]rune{r}); got != encoding(r) {
			t.Errorf("Text(%x) = %x", r, got)
		}
	})
	for _, n := range strangers() {
		if got := utf.Text([]rune{n, 0x62}); got != replacement+"b" {
			t.Errorf("Text(%x) = %x", n, got)
		}
	}
}

func cutOf(s string, from, to int) string {
	out := ""
	for number, p := range piecesOf(s) {
		if number >= from && number < to {
			out += p.bytes
		}
	}
	return out
}

func TestP2_3Cut(t *testing.T) {
	far := []int{math.MinInt, math.MinInt32, math.MaxInt32, math.MaxInt}
	for _, s := range texts(1500) {
		n := len(runesOf(s))
		ends := slices.Clone(far)
		for i := -2; i <= n+2; i++ {
			ends = append(ends, i)
		}
		for _, from := range ends {
			for _, to := range ends {
				if got, want := utf.Cut(s, from, to), cutOf(s, from, to); got != want {
					t.Fatalf("Cut(%x, %d, %d) = %x, want %x", s, from, to, got, want)
				}
			}
		}
	}
}

func TestP2_3Examples(t *testing.T) {
	for _, x := range []struct {
		s        string
		from, to int
		want     string
	}{
		{"a\xC3\xA9b", 1, 2, "\xC3\xA9"}, {"abc", -5, 1, "a"}, {"abc", 2, 9, "c"}, {"abc", 2, 1, ""}, {"abc", 1, 1, ""},
		{"abc", 3, 3, ""}, {"abc", 4, 9, ""}, {"abc", -9, -1, ""}, {"", 0, 0, ""}, {"", -1, 1, ""}, {"\xFF\xC3a", 0, 2, "\xFF\xC3"},
	} {
		if got := utf.Cut(x.s, x.from, x.to); got != x.want {
			t.Errorf("Cut(%x, %d, %d) = %x", x.s, x.from, x.to, got)
		}
	}
}

func TestP2_4Find(t *testing.T) {
	for _, x := range []struct {
		s, part string
		want    []int
	}{
		{"banana", "ana", []int{1, 3}}, {"ab", "", nil}, {"\xC3\xA9a", "\xA9", nil}, {"\xC3\xA9a", "\xC3", []int{0}},
		{"\xC3\xA9\xA9", "\xA9", []int{1}}, {"", "", nil}, {"", "a", nil}, {"aaaa", "aa", []int{0, 1, 2}}, {"éaéa", "a", []int{1, 3}},
		{"ab", "abc", nil}, {"ab", "ab", []int{0}}, {"\xF0\x9F\x98\x80\x80", "\x80", []int{1}}, {"éé", "é\xC3", []int{0}},
	} {
		if got := utf.Find(x.s, x.part); !slices.Equal(got, x.want) {
			t.Errorf("Find(%x, %x) = %v, want %v", x.s, x.part, got, x.want)
		}
	}
	for _, s := range texts(3000) {
		for _, part := range parts(s) {
			if got, want := utf.Find(s, part), foundIn(s, part); !slices.Equal(got, want) {
				t.Fatalf("Find(%x, %x) = %v, want %v", s, part, got, want)
			}
		}
	}
}

func TestP2_5Split(t *testing.T) {
	for _, x := range []struct {
		s, part string
		want    []string
	}{
		{"a,,b", ",", []string{"a", "", "b"}}, {"aaa", "aa", []string{"", "a"}}, {"ab", "", []string{"a", "b"}}, {"", "x", nil},
		{"", "", nil}, {",", ",", []string{"", ""}}, {"ab", "x", []string{"ab"}}, {"ab", "abc", []string{"ab"}}, {"ab", "ab", []string{"", ""}},
		{"\xC3\xA9a", "\xA9", []string{"\xC3", "a"}}, {"é\xFF\xE2\x82", "", []string{"é", "\xFF", "\xE2", "\x82"}}, {"ababa", "aba", []string{"", "ba"}},
		{"aaaa", "aa", []string{"", "", ""}}, {"aaaaa", "aa", []string{"", "", "a"}},
	} {
		if got := utf.Split(x.s, x.part); !slices.Equal(got, x.want) {
			t.Errorf("Split(%q, %q) = %q, want %q", x.s, x.part, got, x.want)
		}
	}
	for _, s := range texts(3000) {
		for _, part := range parts(s) {
			if got, want := utf.Split(s, part), splitOf(s, part); !slices.Equal(got, want) {
				t.Fatalf("Split(%x, %x) = %x, want %x", s, part, got, want)
			}
		}
	}
}

// words are all texts of a and b with at most so many letters: what overlaps itself is among them.
func words(size int) []string {
	out := []string{""}
	for i := 0; len(out[i]) < size; i++ {
		out = append(out, out[i]+"a", out[i]+"b")
	}
	return out
}

func TestP2_4P2_5PartsThatOverlap(t *testing.T) {
	some := words(5)
	for _, s := range words(10) {
		for _, part := range some {
			if got, want := utf.Find(s, part), foundIn(s, part); !slices.Equal(got, want) {
				t.Fatalf("Find(%s, %s) = %v, want %v", s, part, got, want)
			}
			if got, want := utf.Split(s, part), splitOf(s, part); !slices.Equal(got, want) {
				t.Fatalf("Split(%s, %s) = %q, want %q", s, part, got, want)
			}
		}
	}
}

// Were each place looked at afresh, this would take minutes.
func TestP2_4P2_5LongParts(t *testing.T) {
	const size = 1 << 22
	s, part := strings.Repeat("a", size), strings.Repeat("a", size/2)
	if got := utf.Find(s, part); len(got) != size/2+1 || got[size/2] != size/2 {
		t.Errorf("Find found %d", len(got))
	}
	if got := utf.Split(s, part+"b"); len(got) != 1 || got[0] != s {
		t.Errorf("Split has %d texts", len(got))
	}
	if got := utf.Split(s, part); len(got) != 3 {
		t.Errorf("Split has %d texts", len(got))
	}
}

func TestP2_6LowerUpper(t *testing.T) {
	if got := utf.Lower("AbZ\xC3\x84"); got != "abz\xC3\x84" {
		t.Errorf("Lower: %x", got)
	}
	if got := utf.Upper("az{"); got != "AZ{" {
		t.Errorf("Upper: %x", got)
	}
	const large, small = "ABCDEFGHIJKLMNOPQRSTUVWXYZ", "abcdefghijklmnopqrstuvwxyz"
	for b := range 256 {
		s := string([]byte{byte(b)})
		lower, upper := s, s
		if i := strings.Index(large, s); i >= 0 {
			lower = small[i : i+1]
		}
		if i := strings.Index(small, s); i >= 0 {
			upper = large[i : i+1]
		}
		if got := utf.Lower(s + "é" + s); got != lower+"é"+lower {
			t.Errorf("Lower(%x) = %x", s, got)
		}
		if got := utf.Upper(s + "é" + s); got != upper+"é"+upper {
			t.Errorf("Upper(%x) = %x", s, got)
		}
	}
	if utf.Lower("") != "" || utf.Upper("") != "" || utf.Upper("ßéÿ") != "ßéÿ" || utf.Lower("ÀÉ") != "ÀÉ" {
		t.Error("other letters change")
	}
}

func TestP2_7Quote(t *testing.T) {
	if got := utf.Quote("a\"b\\\x0A\x01\x7F/\xFF"); got != `"a\"b\\\n\u0001\u007f/`+replacement+`"` {
		t.Errorf("Quote: %s", got)
	}
	if got := utf.Quote("\x08\x0C\x0A\x0D\x09\x00\x0B\x1F\x20\x7E\x7F\u0080\u2028"); got != `"\b\f\n\r\t\u0000\u000b\u001f ~\u007f`+"\u0080\u2028\"" {
		t.Errorf("Quote: %s", got)
	}
	if got := utf.Quote(""); got != `""` {
		t.Errorf("Quote of nothing: %s", got)
	}
	eachRune(func(r rune) {
		if s := encoding(r); utf.Quote(s) != quoted(s) {
			t.Errorf("Quote(%x) = %s", s, utf.Quote(s))
		}
	})
	for _, s := range texts(20000) {
		if got, want := utf.Quote(s), quoted(s); got != want {
			t.Errorf("Quote(%x) = %s, want %s", s, got, want)
		}
	}
}

func checkEscape(t *testing.T, s string, at int) {
	t.Helper()
	wantR, wantAt, wantE := escapeOf(s, at)
	if r, next, e := utf.Escape(s, at); r != wantR || next != wantAt || e != wantE {
		t.Errorf("Escape(%q, %d) = %x, %d, %d, want %x, %d, %d", s, at, r, next, e, wantR, wantAt, wantE)
	}
}

func TestP2_8Examples(t *testing.T) {
	for _, x := range []struct {
		s    string
		at   int
		r    rune
		next int
		e    api.Errno
	}{
		{`x\n`, 1, 0xA, 3, api.OK}, {`\ud83d\ude00`, 0, 0x1F600, 12, api.OK}, {`\ud83d`, 0, 0, 0, api.ErrPair}, {`\u12`, 0, 0, 0, api.ErrEscape},
		{`a`, 0, 0, 0, api.ErrEscape}, {`a`, 1, 0, 0, api.ErrRange}, {``, 0, 0, 0, api.ErrRange}, {`\n`, -1, 0, 0, api.ErrRange}, {`\n`, 2, 0, 0, api.ErrRange},
		{`\n`, math.MaxInt, 0, 0, api.ErrRange}, {`\n`, math.MinInt, 0, 0, api.ErrRange}, {`ab\`, 2, 0, 2, api.ErrEscape}, {`ab\u00g0`, 2, 0, 2, api.ErrEscape},
		{`ab\udc00`, 2, 0, 2, api.ErrPair}, {`ab\ud800\u12`, 2, 0, 2, api.ErrPair}, {`\U0041`, 0, 0, 0, api.ErrEscape}, {`\ud800\udc00`, 0, 0x10000, 12, api.OK},
		{`\uDBFF\uDFFF`, 0, 0x10FFFF, 12, api.OK}, {`\ud800 \udc00`, 0, 0, 0, api.ErrPair}, {`\ud800\ud800\udc00`, 0, 0, 0, api.ErrPair},
		{`\ud7ff`, 0, 0xD7FF, 6, api.OK}, {`\ue000\udc00`, 0, 0xE000, 6, api.OK}, {`\u0041\u0042`, 0, 0x41, 6, api.OK}, {`\ud800\ue000`, 0, 0, 0, api.ErrPair},
		{`\u+041`, 0, 0, 0, api.ErrEscape}, {`\u0_41`, 0, 0, 0, api.ErrEscape}, {`\u 041`, 0, 0, 0, api.ErrEscape}, {`\u0x41`, 0, 0, 0, api.ErrEscape},
		{`\ud800\ndc00`, 0, 0, 0, api.ErrPair}, {`\u00412`, 0, 0x41, 6, api.OK},
	} {
		if r, next, e := utf.Escape(x.s, x.at); r != x.r || next != x.next || e != x.e {
			t.Errorf("Escape(%q, %d) = %x, %d, %d", x.s, x.at, r, next, e)
		}
	}
}

// Each sign behind the backslash, and each byte in the place of each digit, decides as the words say.
func TestP2_8EachByte(t *testing.T) {
	for b := range 256 {
		checkEscape(t, "x\\"+string([]byte{byte(b)}), 1)
		checkEscape(t, string([]byte{byte(b), 'n'}), 0)
		for _, s := range []string{`\u0041`, `\ud83d\ude00`} {
			for i := range len(s) {
				changed := []byte(s)
				changed[i] = byte(b)
				checkEscape(t, string(changed), 0)
			}
		}
	}
	whole := `\ud83d\ude00`
	for i := range whole {
		checkEscape(t, whole[:i], 0)
		checkEscape(t, whole, i)
	}
}

func TestP2_8EachNumber(t *testing.T) {
	for n := range rune(0x10000) {
		for _, s := range []string{smallHex(n), greatHex(n)} {
			checkEscape(t, s, 0)
			checkEscape(t, s+`\udc00`, 0)
			checkEscape(t, `\udbff`+s+"0", 0)
		}
	}
	for high := rune(0xD800); high < 0xDC00; high += 0x11 {
		for low := rune(0xDC00); low < 0xE000; low += 0x13 {
			checkEscape(t, "é"+smallHex(high)+greatHex(low), 2)
		}
	}
}

func checkUnquote(t *testing.T, s string, at int) {
	t.Helper()
	wantText, wantAt, wantE := literalOf(s, at)
	if text, next, e := utf.Unquote(s, at); text != wantText || next != wantAt || e != wantE {
		t.Errorf("Unquote(%q, %d) = %q, %d, %d, want %q, %d, %d", s, at, text, next, e, wantText, wantAt, wantE)
	}
}

func TestP2_9Examples(t *testing.T) {
	for _, x := range []struct {
		s    string
		at   int
		text string
		next int
		e    api.Errno
	}{
		{`"\ud83d\ude00"x`, 0, "\xF0\x9F\x98\x80", 14, api.OK}, {``, 0, "", 0, api.ErrRange}, {`a`, 0, "", 0, api.ErrQuote}, {`"a`, 0, "", 2, api.ErrQuote},
		{`a"b"`, 1, "b", 4, api.OK}, {`"a\q"`, 0, "", 2, api.ErrEscape}, {`"a\u12"`, 0, "", 2, api.ErrEscape}, {`"\ud800x"`, 0, "", 1, api.ErrPair},
		{`"\udc00"`, 0, "", 1, api.ErrPair}, {`"\ud800\u0041"`, 0, "", 1, api.ErrPair}, {"\"a\x09\"", 0, "", 2, api.ErrControl}, {"\"a\xC3\"", 0, "", 2, api.ErrUTF},
		{`""`, 0, "", 2, api.OK}, {`"`, 0, "", 1, api.ErrQuote}, {`"ab"`, 2, "", 2, api.ErrQuote}, {`"ab"`, 3, "", 4, api.ErrQuote}, {`"ab"`, 4, "", 0, api.ErrRange},
		{`"ab"`, -1, "", 0, api.ErrRange}, {`"ab"`, math.MaxInt, "", 0, api.ErrRange}, {`"ab"`, math.MinInt, "", 0, api.ErrRange}, {`"\"`, 0, "", 3, api.ErrQuote},
		{`"\\"x"`, 0, `\`, 4, api.OK}, {`"\\\""`, 0, `\"`, 6, api.OK}, {`"\u0022"`, 0, `"`, 8, api.OK}, {`"\u005c"`, 0, `\`, 8, api.OK}, {`"\u0000"`, 0, "\x00", 8, api.OK},
		{"\"\x7F\u2028/\"", 0, "\x7F\u2028/", 7, api.OK}, {`"\`, 0, "", 1, api.ErrEscape}, {"\"\\\xC3\"", 0, "", 1, api.ErrEscape}, {"\"\x1F\xC3\\q", 0, "", 1, api.ErrControl},
		{"\"\xC3\x1F\\q", 0, "", 1, api.ErrUTF}, {"\"\\q\xC3\x1F", 0, "", 1, api.ErrEscape}, {"\"" + replacement + "\xEF\xBF\"", 0, "", 4, api.ErrUTF},
		{"\"" + replacement + "\"", 0, replacement, 5, api.OK}, {"\"\xED\xA0\x80\"", 0, "", 1, api.ErrUTF}, {"\"\xC0\x80\"", 0, "", 1, api.ErrUTF},
		{"\"a\"\xFF\x00\\", 0, "a", 3, api.OK}, {"\xFF\"a\"", 1, "a", 4, api.OK}, {`"\ufffd"`, 0, replacement, 8, api.OK}, {`"\u12"34"`, 0, "", 1, api.ErrEscape},
		{"\"\\n\n\"", 0, "", 3, api.ErrControl}, {"\"\x00\"", 0, "", 1, api.ErrControl},
	} {
		if text, next, e := utf.Unquote(x.s, x.at); text != x.text || next != x.next || e != x.e {
			t.Errorf("Unquote(%q, %d) = %q, %d, %d", x.s, x.at, text, next, e)
		}
	}
}

func TestP2_9Unquote(t *testing.T) {
	for _, s := range texts(20000) {
		for _, literal := range []string{s, "\"" + s, "\"" + s + "\"", s + "\"\"", "\"a" + s + "\"b"} {
			for at := -1; at <= len(literal); at++ {
				checkUnquote(t, literal, at)
				checkEscape(t, literal, at)
			}
		}
	}
}

func TestP2_10Escaped(t *testing.T) {
	for r, want := range map[rune]string{0xE9: `\u00e9`, 0x1F600: `\ud83d\ude00`, -1: `\ufffd`, 0: `\u0000`, 0xFFFF: `\uffff`, 0x10000: `\ud800\udc00`, 0x10FFFF: `\udbff\udfff`, 'n': `\u006e`, 0xABCD: `\uabcd`} {
		if got := utf.Escaped(r); got != want {
			t.Errorf("Escaped(%x) = %s", r, got)
		}
	}
	for _, n := range strangers() {
		if got := utf.Escaped(n); got != `\ufffd` {
			t.Errorf("Escaped(%x) = %s", n, got)
		}
	}
	eachRune(func(r rune) {
		want := smallHex(r)
		if r >= 0x10000 {
			want = smallHex(0xD800+(r-0x10000)/0x400) + smallHex(0xDC00+(r-0x10000)%0x400)
		}
		if got := utf.Escaped(r); got != want {
			t.Errorf("Escaped(%x) = %s, want %s", r, got, want)
		}
	})
}

func TestP2_11RunesAndTexts(t *testing.T) {
	for _, s := range texts(20000) {
		back := utf.Text(utf.Runes(s))
		if back != righted(s) || !utf.Valid(back) || (back == s) != utf.Valid(s) {
			t.Errorf("Text(Runes(%x)) = %x", s, back)
		}
		if l := utf.Runes(back); !slices.Equal(l, utf.Runes(utf.Text(l))) {
			t.Errorf("Runes(Text(%x)) is another", l)
		}
	}
}

func TestP2_11Cuts(t *testing.T) {
	for _, s := range texts(2000) {
		n := utf.Len(s)
		for j := range n + 1 {
			if utf.Cut(s, 0, j)+utf.Cut(s, j, n) != s {
				t.Fatalf("%x, cut at %d, is another", s, j)
			}
			for i := range j + 1 {
				if got := utf.Len(utf.Cut(s, i, j)); got != j-i {
					t.Fatalf("Len(Cut(%x, %d, %d)) = %d", s, i, j, got)
				}
			}
		}
	}
}

func TestP2_11Splits(t *testing.T) {
	for _, s := range texts(2000) {
		for _, part := range parts(s) {
			l := utf.Split(s, part)
			if s == "" || part == "" {
				continue
			}
			if strings.Join(l, part) != s || slices.ContainsFunc(l, func(x string) bool { return strings.Contains(x, part) }) {
				t.Fatalf("Split(%x, %x) = %x", s, part, l)
			}
		}
	}
}

func TestP2_11Literals(t *testing.T) {
	for _, s := range texts(20000) {
		q := utf.Quote(s)
		text, next, e := utf.Unquote(q, 0)
		if text != utf.Text(utf.Runes(s)) || next != len(q) || e != api.OK || !utf.Valid(q) {
			t.Errorf("Unquote(Quote(%x), 0) = %x, %d, %d", s, text, next, e)
		}
		by := "\""
		for _, r := range utf.Runes(s) {
			by += utf.Escaped(r)
		}
		if other, _, e := utf.Unquote(by+"\"", 0); e != api.OK || utf.Quote(other) != q {
			t.Errorf("Quote of what %s says is another than %s", by, q)
		}
	}
	for _, r := range append(strangers(), 0, 0x41, 0xD7FF, 0xE000, 0xFFFF, 0x10000, 0x1F600, 0x10FFFF) {
		l := utf.Runes(utf.Text([]rune{r}))
		if got, next, e := utf.Escape(utf.Escaped(r), 0); len(l) != 1 || got != l[0] || next != len(utf.Escaped(r)) || e != api.OK {
			t.Errorf("Escape(Escaped(%x), 0) = %x, %d, %d", r, got, next, e)
		}
	}
}

// Lists that are answered are the caller's: to write into one, or to let it grow, changes no other.
func TestMemoryOfAnswers(t *testing.T) {
	s, part := "a,é,\xFF,b", ","
	runes, found, split, each := utf.Runes(s), utf.Find(s, part), utf.Split(s, part), utf.Split(s, "")
	for i := range runes {
		runes[i] = 'x'
	}
	for i := range found {
		found[i] = -1
	}
	for _, l := range [][]string{split, each} {
		for i := range l {
			l[i] = "x"
		}
		_ = append(l, "y")
	}
	_, _ = append(runes, 'y'), append(found, -2)
	if s != "a,é,\xFF,b" || part != "," {
		t.Fatal("a text changed")
	}
	if !slices.Equal(utf.Runes(s), runesOf(s)) || !slices.Equal(utf.Find(s, part), foundIn(s, part)) || !slices.Equal(utf.Split(s, part), splitOf(s, part)) || !slices.Equal(utf.Split(s, ""), splitOf(s, "")) {
		t.Error("what was written into one answer shows in the next")
	}
}

// Text reads its list, and neither writes into it, nor into its spare room, nor keeps it.
func TestMemoryOfText(t *testing.T) {
	room := []rune{'a', -1, 0x1F600, 'r', 0xD800, 'm'}
	kept := slices.Clone(room)
	list := room[1:3]
	text := utf.Text(list)
	if !slices.Equal(room, kept) {
		t.Errorf("Text changed its list: %x", room)
	}
	list[0], list[1] = 'x', 'y'
	if text != replacement+"\xF0\x9F\x98\x80" {
		t.Errorf("Text's answer changed with the list: %x", text)
	}
}

// The same calls at the same time answer the same.
func TestSameness(t *testing.T) {
	some := texts(300)
	var crew sync.WaitGroup
	for range 8 {
		crew.Go(func() {
			for _, s := range some {
				checkPieces(t, s)
				checkUnquote(t, "\""+s+"\"", 0)
				if utf.Quote(s) != quoted(s) || !slices.Equal(utf.Split(s, "a"), splitOf(s, "a")) {
					t.Errorf("of %x: another answer", s)
				}
			}
		})
	}
	crew.Wait()
}

func FuzzAny(f *testing.F) {
	f.Add("a\"b\\\n\x01\x7f/\xff", "b", 1)
	f.Add(`"\ud83d\ude00"x`, "\\", 0)
	f.Add("\xC3\xA9a", "\xA9", -5)
	f.Fuzz(func(t *testing.T, s, part string, at int) {
		checkPieces(t, s)
		checkUnquote(t, s, at)
		checkEscape(t, s, at)
		if !slices.Equal(utf.Find(s, part), foundIn(s, part)) || !slices.Equal(utf.Split(s, part), splitOf(s, part)) {
			t.Errorf("Find or Split of %x and %x", s, part)
		}
		if utf.Quote(s) != quoted(s) || utf.Cut(s, at, at+len(part)) != cutOf(s, at, at+len(part)) {
			t.Errorf("Quote or Cut of %x, at %d", s, at)
		}
	})
}
