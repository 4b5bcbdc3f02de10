package word_test

import (
	"regexp"
	"strings"
	"unicode/utf8"

	"hallmark/api"
	"hallmark/utf"
	"hallmark/word"
)

// What stands in this file says the chapter's words once more, as plainly as they stand there, by regular expressions and with the filters within texts gone into one inside the other: the tests hold the package against it.

var (
	between   = regexp.MustCompile(`^(?:[\x20\x09\x0A\x0D]|#[^\x0A]*)*`)
	nameRun   = regexp.MustCompile(`^[a-zA-Z_][a-zA-Z0-9_]*`)
	varRun    = regexp.MustCompile(`^\$([a-zA-Z_][a-zA-Z0-9_]*)`)
	fieldRun  = regexp.MustCompile(`^\.([a-zA-Z_][a-zA-Z0-9_]*)`)
	numberRun = regexp.MustCompile(`^[0-9][a-zA-Z0-9_.]*`)
	inTens    = regexp.MustCompile(`^(?:0|[1-9][0-9]*)$`)
)

func ownWords() []string {
	return strings.Fields("def if then elif else end as reduce foreach try catch and or label break null true false")
}

func marks() []string {
	return strings.Fields(".. //= |= += -= *= /= %= == != <= >= // | , = < > + - * / % . ( ) [ ] { } : ; ?")
}

func isOwn(name string) bool {
	for _, own := range ownWords() {
		if own == name {
			return true
		}
	}
	return false
}

func isNamed(s string) bool { return nameRun.FindString(s) == s && s != "" }

// longestMark is the longest mark that a text begins with, or nothing.
func longestMark(s string) string {
	longest := ""
	for _, m := range marks() {
		if strings.HasPrefix(s, m) && len(m) > len(longest) {
			longest = m
		}
	}
	return longest
}

// reading is what is known of a text up to a place; e and fault tell the first fault.
type reading struct {
	s     string
	at    int
	out   []api.Token
	e     api.Errno
	fault int
}

func (r *reading) refuse(e api.Errno, at int) bool {
	r.e, r.fault = e, at
	return false
}

// take puts a token down that begins where the reading is.
func (r *reading) take(kind, long int, text string) bool {
	r.out = append(r.out, api.Token{Kind: kind, At: r.at, End: r.at + long, Text: text})
	r.at += long
	return true
}

// filter reads tokens: all, or up to the closing bracket that belongs to none of its own. It says whether there was no fault.
func (r *reading) filter(within bool) bool {
	brackets := 0
	for {
		r.at += len(between.FindString(r.s[r.at:]))
		switch {
		case r.at == len(r.s) && within:
			return r.refuse(api.ErrQuote, len(r.s))
		case r.at == len(r.s):
			return true
		case r.s[r.at] == '(':
			brackets++
		case r.s[r.at] == ')' && brackets == 0 && within:
			return true
		case r.s[r.at] == ')':
			brackets--
		}
		if !r.one() {
			return false
		}
	}
}

// one reads what begins where the reading is.
func (r *reading) one() bool {
	rest := r.s[r.at:]
	name, number, mark := nameRun.FindString(rest), numberRun.FindString(rest), longestMark(rest)
	variable, field := varRun.FindStringSubmatch(rest), fieldRun.FindStringSubmatch(rest)
	switch {
	case isOwn(name):
		return r.take(2, len(name), name)
	case name != "":
		return r.take(1, len(name), name)
	case variable != nil && !isOwn(variable[1]):
		return r.take(3, len(variable[0]), variable[1])
	case field != nil:
		return r.take(4, len(field[0]), field[1])
	case inTens.MatchString(number):
		return r.take(5, len(number), number)
	case number != "":
		return r.refuse(api.ErrNumber, r.at)
	case rest[0] == '"':
		return r.text()
	case mark != "":
		return r.take(10, len(mark), mark)
	}
	return r.refuse(api.ErrWords, r.at)
}

// text reads a text with all that is within it.
func (r *reading) text() bool {
	whole, further := word.Text, word.Begin
	for {
		said, end, ok := r.spoken(r.at + 1)
		switch {
		case !ok:
			return false
		case r.s[end] == '"':
			return r.take(whole, end+1-r.at, said)
		}
		r.take(further, end+2-r.at, said)
		if !r.filter(true) {
			return false
		}
		whole, further = word.End, word.Mid
	}
}

// spoken is what the runes and escapes from a place on say, and the place of the quote or the backslash that ends them.
func (r *reading) spoken(at int) (string, int, bool) {
	var said []rune
	for {
		rest := r.s[at:]
		first, size := utf8.DecodeRuneInString(rest)
		switch {
		case rest == "":
			return "", 0, r.refuse(api.ErrQuote, at)
		case first == '"' || strings.HasPrefix(rest, `\(`):
			return string(said), at, true
		case first == '\\':
			escaped, next, e := utf.Escape(r.s, at)
			if e != api.OK {
				return "", 0, r.refuse(e, at)
			}
			said, at = append(said, escaped), next
			continue
		case first < 32:
			return "", 0, r.refuse(api.ErrControl, at)
		case first == utf8.RuneError && size == 1:
			return "", 0, r.refuse(api.ErrUTF, at)
		}
		said, at = append(said, first), at+size
	}
}

// answerOf is what Scan answers.
func answerOf(s string) ([]api.Token, api.Errno, int) {
	r := reading{s: s}
	if !r.filter(false) {
		return nil, r.e, r.fault
	}
	return r.out, api.OK, 0
}
