package utf

import (
	"strconv"
	"strings"
	"unicode/utf8"

	"hallmark/api"
)

// The short escapes: what stands behind the backslash, and at the same place the rune that it says.
const (
	signs = "\"\\/bfnrt"
	said  = "\"\\/\b\f\n\r\t"
)

const (
	firstHigh = 0xD800
	firstLow  = 0xDC00
	behindLow = 0xE000
	firstPair = 0x10000 // the first rune that takes two numbers
	lowBits   = 10      // bits of a rune that its low number says

	numbered = len("\\u0000") // bytes of an escape by number
)

// Quote is a text as a literal.
func Quote(s string) string {
	literal := make([]byte, 0, len(s)+2)
	literal = append(literal, '"')
	for _, r := range s {
		literal = appendQuoted(literal, r)
	}
	return string(append(literal, '"'))
}

// appendQuoted adds a rune as it stands in Quote's literals.
func appendQuoted(literal []byte, r rune) []byte {
	switch {
	case r == '"', r == '\\', r < ' ':
		if i := strings.IndexRune(said, r); i >= 0 {
			return append(literal, '\\', signs[i])
		}
		fallthrough
	case r == 0x7F:
		return append(literal, byNumber(r)...)
	}
	return utf8.AppendRune(literal, r)
}

// Escaped is a rune by escapes alone; what is no rune counts as FFFD.
func Escaped(r rune) string {
	if !utf8.ValidRune(r) {
		r = utf8.RuneError
	}
	if r < firstPair {
		return byNumber(r)
	}
	r -= firstPair
	return byNumber(firstHigh+r>>lowBits) + byNumber(firstLow+r&(1<<lowBits-1))
}

// byNumber is the escape of a number below 10000.
func byNumber(n rune) string {
	const digits = "0123456789abcdef"
	return string([]byte{'\\', 'u', digits[n>>12], digits[n>>8&15], digits[n>>4&15], digits[n&15]})
}

// Escape is the rune of the escape that begins at a place, and the place behind it; or an error and its place.
func Escape(s string, at int) (rune, int, api.Errno) {
	if !isPlace(s, at) {
		return 0, 0, api.ErrRange
	}
	if r, ok := shortAt(s, at); ok {
		return r, at + 2, api.OK
	}
	n, ok := numberAt(s, at)
	switch {
	case !ok:
		return 0, at, api.ErrEscape
	case n < firstHigh || n >= behindLow:
		return n, at + numbered, api.OK
	}
	low, ok := numberAt(s, at+numbered)
	if n >= firstLow || !ok || low < firstLow || low >= behindLow {
		return 0, at, api.ErrPair
	}
	return firstPair + (n-firstHigh)<<lowBits + (low - firstLow), at + 2*numbered, api.OK
}

func isPlace(s string, at int) bool { return at >= 0 && at < len(s) }

// shortAt is what the short escape says that begins at a place, if one does.
func shortAt(s string, at int) (rune, bool) {
	if s[at] != '\\' || at+1 == len(s) {
		return 0, false
	}
	i := strings.IndexByte(signs, s[at+1])
	if i < 0 {
		return 0, false
	}
	return rune(said[i]), true
}

// numberAt is the number of the escape by number that begins at a place, if one does.
func numberAt(s string, at int) (rune, bool) {
	digits, ok := strings.CutPrefix(s[at:], "\\u")
	if !ok || len(digits) < 4 {
		return 0, false
	}
	n, err := strconv.ParseUint(digits[:4], 16, 16) // takes digits alone: no sign, and no line between digits at this base
	return rune(n), err == nil
}

// Unquote is the text of the literal that begins at a place, and the place behind it; or an error and its place.
func Unquote(s string, at int) (string, int, api.Errno) {
	if !isPlace(s, at) {
		return "", 0, api.ErrRange
	}
	if s[at] != '"' {
		return "", at, api.ErrQuote
	}
	var text []byte
	first := at + 1
	next := first // the place behind what has been taken
	for i, r := range s[first:] {
		place := first + i
		switch {
		case place < next: // within an escape
		case r == '"':
			return string(text), place + 1, api.OK
		case r < ' ':
			return "", place, api.ErrControl
		case stray(s, place, r):
			return "", place, api.ErrUTF
		case r == '\\':
			var e api.Errno
			if r, next, e = Escape(s, place); e != api.OK {
				return "", next, e
			}
			fallthrough
		default:
			text = utf8.AppendRune(text, r)
		}
	}
	return "", len(s), api.ErrQuote
}
