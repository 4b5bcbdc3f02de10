package word

import (
	"strings"

	"hallmark/api"
	"hallmark/tens"
	"hallmark/utf"
)

const (
	quote       = "\""
	inward      = "\\(" // what begins a filter within a text
	longestMark = len("//=")
)

// cutter goes along a text.
type cutter struct {
	text string
	open []int // of each filter within a text that isn't closed, the inner ones behind: how many of its own brackets are open
}

// token cuts what begins at a place; a fault is an error beside a token that tells its place alone.
func (c *cutter) token(at int) (api.Token, api.Errno) {
	switch first := c.text[at]; {
	case beginsName(first):
		return c.name(at)
	case first == '$':
		return c.variable(at)
	case first == '.' && nameAt(c.text, at+1) != "":
		return c.field(at)
	case isDigit(first):
		return c.number(at)
	case first == '"':
		return c.piece(at, Text, Begin)
	case first == ')' && c.closesFilter():
		return c.piece(at, End, Mid)
	}
	return c.mark(at)
}

func fault(at int, e api.Errno) (api.Token, api.Errno) { return api.Token{At: at}, e }

func (c *cutter) name(at int) (api.Token, api.Errno) {
	name := nameAt(c.text, at)
	kind := Name
	if own(name) {
		kind = Own
	}
	return api.Token{Kind: kind, At: at, End: at + len(name), Text: name}, api.OK
}

func (c *cutter) variable(at int) (api.Token, api.Errno) {
	name := nameAt(c.text, at+1)
	if !Plain(name) {
		return fault(at, api.ErrWords)
	}
	return api.Token{Kind: Var, At: at, End: at + 1 + len(name), Text: name}, api.OK
}

func (c *cutter) field(at int) (api.Token, api.Errno) {
	name := nameAt(c.text, at+1)
	return api.Token{Kind: Field, At: at, End: at + 1 + len(name), Text: name}, api.OK
}

func (c *cutter) number(at int) (api.Token, api.Errno) {
	end := behind(c.text, at, inNumber)
	number := c.text[at:end]
	if !tens.Formed(number) {
		return fault(at, api.ErrNumber)
	}
	return api.Token{Kind: Number, At: at, End: end, Text: number}, api.OK
}

func (c *cutter) mark(at int) (api.Token, api.Errno) {
	mark := markAt(c.text, at)
	switch mark {
	case "":
		return fault(at, api.ErrWords)
	case "(":
		c.count(1)
	case ")":
		c.count(-1)
	}
	return api.Token{Kind: Mark, At: at, End: at + len(mark), Text: mark}, api.OK
}

// count counts brackets where one of them may close a filter; outside all texts none does.
func (c *cutter) count(more int) {
	if last := len(c.open) - 1; last >= 0 {
		c.open[last] += more
	}
}

// closesFilter says whether a closing bracket would close a filter within a text here.
func (c *cutter) closesFilter() bool {
	last := len(c.open) - 1
	return last >= 0 && c.open[last] == 0
}

// piece cuts a piece of a text, which begins with the byte at a place; it is the text's last one or one with a filter behind it.
func (c *cutter) piece(at, last, further int) (api.Token, api.Errno) {
	end := pieceEnd(c.text, at+1)
	said, next, e := utf.Unquote(literal(c.text[at+1:end], end < len(c.text)), 0)
	if e != api.OK {
		return fault(at+next, e)
	}
	x := api.Token{Kind: last, At: at, End: end + len(quote), Text: said}
	if strings.HasPrefix(c.text[end:], inward) {
		x.Kind, x.End = further, end+len(inward)
	}
	c.enter(x.Kind)
	return x, api.OK
}

// pieceEnd is the place of what ends a piece, a quote or the beginning of a filter; if there is neither, that of the text's end.
func pieceEnd(s string, at int) int {
	at = behind(s, at, inPiece)
	for at < len(s) && s[at] == '\\' && !strings.HasPrefix(s[at:], inward) {
		at = behind(s, min(at+2, len(s)), inPiece) // behind the sign that stands behind the backslash: it may be a quote
	}
	return at
}

// literal is a piece as a literal of JSON: its first byte stands where the byte stood that began the piece.
func literal(piece string, ends bool) string {
	if ends {
		return quote + piece + quote
	}
	return quote + piece
}

// enter goes into a filter behind a piece of this kind, or out of the text.
func (c *cutter) enter(kind int) {
	switch kind {
	case Begin:
		c.open = append(c.open, 0)
	case End:
		c.open = c.open[:len(c.open)-1]
	}
}
