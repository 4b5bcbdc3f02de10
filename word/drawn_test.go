package word_test

import (
	"math/rand"
	"strings"

	"hallmark/api"
	"hallmark/word"
)

// laying puts tokens one behind the other, and knows which ones they are.
type laying struct {
	*rand.Rand
	s      string
	tokens []api.Token
	idle   bool // with blanks and remarks between tokens
}

func one[T any](r *rand.Rand, of []T) T { return of[r.Intn(len(of))] }

// token lays a token down, apart from the one ahead, if both together would be read otherwise.
func (l *laying) token(kind int, bytes, text string) {
	if kind != word.Mid && kind != word.End {
		l.blanks()
		if l.runsOn(bytes) {
			l.s += one(l.Rand, []string{" ", "\t", "\n", "\r", "#\n", "# (\"\n", "#\r$&\n"})
		}
	}
	l.tokens = append(l.tokens, api.Token{Kind: kind, At: len(l.s), End: len(l.s) + len(bytes), Text: text})
	l.s += bytes
}

// runsOn says whether these bytes, right behind the last token, would be taken for a part of it.
func (l *laying) runsOn(bytes string) bool {
	if len(l.tokens) == 0 || l.tokens[len(l.tokens)-1].End < len(l.s) {
		return false
	}
	last, letter := l.tokens[len(l.tokens)-1], nameRun.MatchString(bytes) || numberRun.MatchString(bytes)
	switch last.Kind {
	case word.Number:
		return letter || bytes[0] == '.'
	case word.Name, word.Own, word.Var, word.Field:
		return letter
	case word.Mark:
		return last.Text == "." && nameRun.MatchString(bytes) || len(longestMark(last.Text+bytes)) > len(last.Text)
	}
	return false
}

func (l *laying) blanks() {
	if !l.idle {
		return
	}
	for range l.Intn(3) {
		l.s += one(l.Rand, []string{" ", "\t", "\n", "\r", "  ", "# a remark\n", "#\n", "#\r#\"\\(\n", "# ) (\xff\x00\n"})
	}
}

func drawnName(r *rand.Rand) string {
	return one(r, []string{"a", "Z", "_", "map", "x1", "_9", "__", "iff", "endif", "if_", "nulls", "True", "aB_0", "and1", "notand", strings.Repeat("n", 1+r.Intn(20))})
}

// spokenPart is a piece's part: as it is written, and what it says.
type spokenPart struct{ written, said string }

func spokenParts() []spokenPart {
	return []spokenPart{
		{"a", "a"}, {" ", " "}, {"#", "#"}, {"(", "("}, {")", ")"}, {"x y", "x y"}, {"\x7f", "\x7f"}, {"é", "é"}, {"€", "€"}, {"𝄞", "𝄞"}, {"\ufffd", "\ufffd"},
		{`\"`, `"`}, {`\\`, `\`}, {`\/`, "/"}, {`\b`, "\b"}, {`\f`, "\f"}, {`\n`, "\n"}, {`\r`, "\r"}, {`\t`, "\t"},
		{`\u0041`, "A"}, {`\u00e9`, "é"}, {`\u20AC`, "€"}, {`\ud834\udd1e`, "𝄞"}, {`\u0000`, "\x00"}, {`\u0022`, `"`}, {`\u005c`, `\`}, {`\\(`, `\(`}, {`\u005c(`, `\(`},
	}
}

func drawnPiece(r *rand.Rand) spokenPart {
	var whole spokenPart
	for range r.Intn(4) {
		part := one(r, spokenParts())
		whole.written += part.written
		whole.said += part.said
	}
	return whole
}

// text lays a text down; deep is how far filters may stand in texts in filters.
func (l *laying) text(deep int) {
	filters := 0
	if deep > 0 {
		filters = l.Intn(3)
	}
	piece := drawnPiece(l.Rand)
	if filters == 0 {
		l.token(word.Text, `"`+piece.written+`"`, piece.said)
		return
	}
	l.token(word.Begin, `"`+piece.written+`\(`, piece.said)
	for i := range filters {
		l.filter(deep-1, true)
		l.blanks()
		piece = drawnPiece(l.Rand)
		if i+1 < filters {
			l.token(word.Mid, ")"+piece.written+`\(`, piece.said)
		}
	}
	l.token(word.End, ")"+piece.written+`"`, piece.said)
}

// filter lays some tokens down; within a text closing brackets have an opening one ahead of them.
func (l *laying) filter(deep int, within bool) {
	open := 0
	for range l.Intn(7) {
		switch l.Intn(8) {
		case 0:
			name := drawnName(l.Rand)
			l.token(word.Name, name, name)
		case 1:
			own := one(l.Rand, ownWords())
			l.token(word.Own, own, own)
		case 2:
			name := drawnName(l.Rand)
			l.token(word.Var, "$"+name, name)
		case 3:
			name := one(l.Rand, append(ownWords(), drawnName(l.Rand)))
			l.token(word.Field, "."+name, name)
		case 4:
			number := one(l.Rand, []string{"0", "1", "9", "10", "12345678901234567890123"})
			l.token(word.Number, number, number)
		case 5:
			l.text(deep)
		default:
			mark := one(l.Rand, append(marks(), "(", ")", ".", "..", "/", "//"))
			if mark == "(" {
				open++
			}
			if mark == ")" && within {
				if open == 0 {
					continue
				}
				open--
			}
			l.token(word.Mark, mark, mark)
		}
	}
	for ; within && open > 0; open-- {
		l.token(word.Mark, ")", ")")
	}
}

// drawnFilter is a text without a fault, and its tokens.
func drawnFilter(r *rand.Rand) (string, []api.Token) {
	l := laying{Rand: r, idle: r.Intn(3) > 0}
	l.filter(3, false)
	l.blanks()
	if l.idle && r.Intn(4) == 0 {
		l.s += one(r, []string{"#", "# the end", "#\r"})
	}
	return l.s, l.tokens
}

// spoilt is a text in which some bytes are others, or are gone, or have come in.
func spoilt(s string, r *rand.Rand) string {
	const bytes = "\"\"\\\\(()).$#!&/=|if_Z019u+-'@\n\r\t \x00\x1f\x7f\x80\xc3\xa9\xc8\xff"
	for range 1 + r.Intn(3) {
		at := r.Intn(len(s) + 1)
		i := r.Intn(len(bytes))
		other := bytes[i : i+1]
		switch r.Intn(4) {
		case 0:
			s = s[:at] + other + s[at:]
		case 1:
			s = s[:at] + s[min(at+1, len(s)):]
		case 2:
			s = s[:at] + other + s[min(at+1, len(s)):]
		case 3:
			s = s[:at]
		}
	}
	return s
}

// drawn are texts with and without a fault.
func drawn(n int) []string {
	r := rand.New(rand.NewSource(16))
	var out []string
	for range n {
		s, _ := drawnFilter(r)
		out = append(out, s, spoilt(s, r))
	}
	return out
}

// short calls with every text of at most so many of these bytes.
func short(bytes string, most int, do func(s string)) {
	var longer func(s string)
	longer = func(s string) {
		do(s)
		if len(s) < most {
			for i := range len(bytes) {
				longer(s + bytes[i:i+1])
			}
		}
	}
	longer("")
}
