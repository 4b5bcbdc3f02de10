package utf_test

import (
	"math/rand"
	"strings"

	"hallmark/api"
)

// What stands in this file says the chapter's words once more, as plainly as they stand there, by numbers alone: the tests hold the package against it.

const replacement = "\xEF\xBF\xBD"

// piece is a piece of a text: its bytes, and the rune that it stands for.
type piece struct {
	bytes string
	r     rune
	stray bool
}

func isRune(n rune) bool { return n >= 0 && n <= 0x10FFFF && (n < 0xD800 || n > 0xDFFF) }

// encode writes a number in so many bytes, whether or not it is a rune, and whether or not fewer would do.
func encode(n rune, size int) string {
	lead := []byte{0, 0, 0xC0, 0xE0, 0xF0}[size]
	out := make([]byte, size)
	for i := size - 1; i > 0; i-- {
		out[i] = byte(0x80 | n&0x3F)
		n >>= 6
	}
	out[0] = lead | byte(n)
	return string(out)
}

func sizeOf(r rune) int {
	switch {
	case r < 0x80:
		return 1
	case r < 0x800:
		return 2
	case r < 0x10000:
		return 3
	}
	return 4
}

func encoding(r rune) string { return encode(r, sizeOf(r)) }

// decode is the number whose bits stand in so many bytes.
func decode(bytes string) rune {
	n := rune(bytes[0])
	if len(bytes) > 1 {
		n &= 0xFF >> (len(bytes) + 1)
	}
	for _, b := range []byte(bytes[1:]) {
		n = n<<6 | rune(b&0x3F)
	}
	return n
}

func firstPiece(s string) piece {
	for size := 1; size <= min(4, len(s)); size++ {
		r := decode(s[:size])
		if isRune(r) && encoding(r) == s[:size] {
			return piece{s[:size], r, false}
		}
	}
	return piece{s[:1], 0xFFFD, true}
}

func piecesOf(s string) []piece {
	var out []piece
	for s != "" {
		p := firstPiece(s)
		out = append(out, p)
		s = s[len(p.bytes):]
	}
	return out
}

func runesOf(s string) []rune {
	var out []rune
	for _, p := range piecesOf(s) {
		out = append(out, p.r)
	}
	return out
}

// righted is a text with the encoding of FFFD in the place of each stray byte.
func righted(s string) string {
	var b strings.Builder
	for _, r := range runesOf(s) {
		b.WriteString(encoding(r))
	}
	return b.String()
}

func foundIn(s, part string) []int {
	var out []int
	at := 0
	for number, p := range piecesOf(s) {
		if part != "" && strings.HasPrefix(s[at:], part) {
			out = append(out, number)
		}
		at += len(p.bytes)
	}
	return out
}

func splitOf(s, part string) []string {
	var out []string
	if s != "" && part == "" {
		for _, p := range piecesOf(s) {
			out = append(out, p.bytes)
		}
		return out
	}
	begin := 0
	for at := 0; at < len(s); at++ {
		if at >= begin && strings.HasPrefix(s[at:], part) {
			out = append(out, s[begin:at])
			begin = at + len(part)
		}
	}
	if s == "" {
		return nil
	}
	return append(out, s[begin:])
}

func hex(n rune, digits string) string {
	return "\\u" + string([]byte{digits[n>>12&15], digits[n>>8&15], digits[n>>4&15], digits[n&15]})
}

func smallHex(n rune) string { return hex(n, "0123456789abcdef") }
func greatHex(n rune) string { return hex(n, "0123456789ABCDEF") }

func quoted(s string) string {
	out := "\""
	for _, p := range piecesOf(s) {
		short := strings.IndexByte("\"\\\x08\x0C\x0A\x0D\x09", p.bytes[0])
		switch {
		case p.stray:
			out += replacement
		case short >= 0:
			out += "\\" + "\"\\bfnrt"[short:short+1]
		case p.r < 0x20 || p.r == 0x7F:
			out += smallHex(p.r)
		default:
			out += p.bytes
		}
	}
	return out + "\""
}

// numberOf is what four digits to the base 16 write behind a backslash and u at the beginning of s.
func numberOf(s string) (rune, bool) {
	if len(s) < 6 || s[:2] != "\\u" {
		return 0, false
	}
	n := rune(0)
	for _, b := range []byte(s[2:6]) {
		digit := strings.IndexByte("0123456789abcdefABCDEF", b)
		if digit < 0 {
			return 0, false
		}
		if digit > 15 {
			digit -= 6
		}
		n = n*16 + rune(digit)
	}
	return n, true
}

func escapeOf(s string, at int) (rune, int, api.Errno) {
	if at < 0 || at >= len(s) {
		return 0, 0, api.ErrRange
	}
	for i, sign := range []string{"\\\"", "\\\\", "\\/", "\\b", "\\f", "\\n", "\\r", "\\t"} {
		if strings.HasPrefix(s[at:], sign) {
			return []rune{0x22, 0x5C, 0x2F, 0x8, 0xC, 0xA, 0xD, 0x9}[i], at + 2, api.OK
		}
	}
	n, ok := numberOf(s[at:])
	if !ok {
		return 0, at, api.ErrEscape
	}
	if isRune(n) {
		return n, at + 6, api.OK
	}
	low, ok := numberOf(s[at+6:])
	if n >= 0xDC00 || !ok || low < 0xDC00 || low > 0xDFFF {
		return 0, at, api.ErrPair
	}
	return 0x10000 + (n-0xD800)*0x400 + (low - 0xDC00), at + 12, api.OK
}

func literalOf(s string, at int) (string, int, api.Errno) {
	if at < 0 || at >= len(s) {
		return "", 0, api.ErrRange
	}
	if s[at] != 0x22 {
		return "", at, api.ErrQuote
	}
	text := ""
	for at++; at < len(s); {
		p := firstPiece(s[at:])
		switch {
		case p.bytes == "\"":
			return text, at + 1, api.OK
		case p.r < 0x20:
			return "", at, api.ErrControl
		case p.stray:
			return "", at, api.ErrUTF
		case p.bytes == "\\":
			r, next, e := escapeOf(s, at)
			if e != api.OK {
				return "", at, e
			}
			text, at = text+encoding(r), next
		default:
			text, at = text+p.bytes, at+len(p.bytes)
		}
	}
	return "", len(s), api.ErrQuote
}

// texts are all texts of at most two bytes of those that stand at an edge, and longer ones drawn from a fixed seed: whole and broken encodings, and what escapes are made of.
func texts(many int) []string {
	edges := "\x00\x08\x1f\x20\"\\/AZaz{@[`u0dD8\x7f\x80\x8f\x90\x9f\xa0\xbf\xc0\xc1\xc2\xc3\xdf\xe0\xe1\xec\xed\xee\xef\xf0\xf1\xf3\xf4\xf5\xf8\xfc\xfe\xff"
	out := []string{"", "a,,b", "banana", replacement, "\xef\xbf", "\xbf\xbd"}
	for i := range edges {
		out = append(out, edges[i:i+1])
		for k := range edges {
			out = append(out, edges[i:i+1]+edges[k:k+1])
		}
	}
	bits := []string{
		"a", "b", "ab", "\"", "\\", "\\\"", "\\\\", "\\n", "\\u", "\\u00e9", "\\uD83D", "\\ude00", "\\ud83d\\ude00", "\n", "\x7f", "\x1f",
		"é", "\xc3", "\xa9", "\u07ff", "\u0800", "\ud7ff", "\ue000", "\uffff", "\U00010000", "\U0001F600", "\U0010FFFF", replacement,
		"\xed\xa0\x80", "\xed\xbf\xbf", "\xc0\x80", "\xe0\x9f\xbf", "\xf0\x8f\xbf\xbf", "\xf4\x90\x80\x80", "\xf0\x9f\x98", "\xe2\x82",
	}
	r := rand.New(rand.NewSource(2))
	for range many {
		var b strings.Builder
		for range 1 + r.Intn(7) {
			if r.Intn(3) == 0 {
				b.WriteByte(edges[r.Intn(len(edges))])
			} else {
				b.WriteString(bits[r.Intn(len(bits))])
			}
		}
		out = append(out, b.String())
	}
	return out
}

// parts are parts to look for in s: of its own bytes, from and to any place, and others.
func parts(s string) []string {
	out := []string{"", "a", "x", "\xa9", "\xc3", "é", "ana", "\\u", s + "a", s + s}
	for i := range len(s) {
		for k := i + 1; k <= min(len(s), i+4); k++ {
			out = append(out, s[i:k])
		}
	}
	return append(out, s)
}
